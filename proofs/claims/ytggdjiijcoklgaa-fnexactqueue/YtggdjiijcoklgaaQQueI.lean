/- A TEXT PUT OUT: the program's. Written by mkque.py. -/
import Derived.Test.YtggdjiijcoklgaaQQueP
namespace Go.Proofs.Ytggdjiijcoklgaa
open Go.RowKit
set_option linter.unusedVariables false
set_option linter.unusedSimpArgs false

set_option maxRecDepth 100000 in
set_option maxHeartbeats 6400000 in
theorem queue_any (s : Stn) (b : ByteArray) (B : Nat) (v1 v2 v3 v4 : Value) (w : World) (b1 : s.kn.length ≤ 1048576) (b2 : s.ws.length ≤ 1048576) (b3 : s.gs.length ≤ 1048576) (b5 : ∀ g ∈ s.gs, g.2.length ≤ 1048576) (b4 : s.os.length ≤ 1048576) (b6 : ∀ b ∈ s.os, b.size ≤ 9223372036854775807) (hbz : b.size ≤ 1048576)
    (h : OwnStn w B v1 v2 v3 v4 s) :
    Calls Try.prog 10 #[.agg #[.int .i64 s.ad, .int .i64 s.bo, .int .i64 s.st, .int .i64 s.s.g, .int .i64 s.s.o, .int .i64 s.s.b, .int .i64 s.s.h, .int .i64 s.t.g, .int .i64 s.t.o, .int .i64 s.t.b, .int .i64 s.t.h, .int .i64 s.qu, .int .i64 s.tr, .int .i64 s.he, .int .i64 s.po, v1, v2, v3, v4], .string b] w fun e w' => ∃ u1 u2 u3 u4, e = .returned (.agg #[.int .i64 (queStn s b).ad, .int .i64 (queStn s b).bo, .int .i64 (queStn s b).st, .int .i64 (queStn s b).s.g, .int .i64 (queStn s b).s.o, .int .i64 (queStn s b).s.b, .int .i64 (queStn s b).s.h, .int .i64 (queStn s b).t.g, .int .i64 (queStn s b).t.o, .int .i64 (queStn s b).t.b, .int .i64 (queStn s b).t.h, .int .i64 (queStn s b).qu, .int .i64 (queStn s b).tr, .int .i64 (queStn s b).he, .int .i64 (queStn s b).po, u1, u2, u3, u4, .slice none 0 0, .int .i64 (queCode s b)]) ∧ OwnStn w' w.heap.size u1 u2 u3 u4 (queStn s b) ∧ Below w.heap.size w w' := by
  have HC : Hid (∀ W, Below w.heap.size w W → Calls Try.prog 42 #[.agg #[.int .i64 s.ad, .int .i64 s.bo, .int .i64 s.st, .int .i64 s.s.g, .int .i64 s.s.o, .int .i64 s.s.b, .int .i64 s.s.h, .int .i64 s.t.g, .int .i64 s.t.o, .int .i64 s.t.b, .int .i64 s.t.h, .int .i64 s.qu, .int .i64 s.tr, .int .i64 s.he, .int .i64 s.po, v1, v2, v3, v4]] W fun e w' => e = .returned (.bool s.right) ∧ Below W.heap.size W w') := fun W hW => stationRight_any s v1 v2 v3 v4 W b1 b2 b3 b5 b4 b6 (h.rows.1.below hW) (h.rows.2.1.below hW) (h.rows.2.2.1.below hW) (h.rows.2.2.2.below hW)
  have HCP : Hid (s.right = true → ∀ W, Below w.heap.size w W → Calls Try.prog 44 #[.agg #[.int .i64 s.ad, .int .i64 s.bo, .int .i64 s.st, .int .i64 s.s.g, .int .i64 s.s.o, .int .i64 s.s.b, .int .i64 s.s.h, .int .i64 s.t.g, .int .i64 s.t.o, .int .i64 s.t.b, .int .i64 s.t.h, .int .i64 s.qu, .int .i64 s.tr, .int .i64 s.he, .int .i64 s.po, v1, v2, v3, v4]] W fun e w' => ∃ u1 u2 u3 u4, e = .returned (.agg #[.int .i64 s.ad, .int .i64 s.bo, .int .i64 s.st, .int .i64 s.s.g, .int .i64 s.s.o, .int .i64 s.s.b, .int .i64 s.s.h, .int .i64 s.t.g, .int .i64 s.t.o, .int .i64 s.t.b, .int .i64 s.t.h, .int .i64 s.qu, .int .i64 s.tr, .int .i64 s.he, .int .i64 s.po, u1, u2, u3, u4]) ∧ OwnStn w' W.heap.size u1 u2 u3 u4 s ∧ Below W.heap.size W w') := fun hr W hW => copyStation_any s B v1 v2 v3 v4 W (right_small hr) (h.below hW)
  have HL : Hid (8000 < b.size → queCode s b = 2 ∧ queStn s b = newS 0 0) := que_long
  have HF : Hid ((s.right && bodyQ b) = false → ¬ 8000 < b.size → queCode s b = 1 ∧ queStn s b = newS 0 0) := que_form
  have HU : Hid ((s.right && bodyQ b) = true → ¬ 8000 < b.size → s.os.length = 3 → queCode s b = 9 ∧ queStn s b = newS 0 0) := que_full
  have HK : Hid ((s.right && bodyQ b) = true → ¬ 8000 < b.size → ¬ s.os.length = 3 → queCode s b = 0 ∧ queStn s b = { s with os := s.os ++ [b] }) := que_ok
  have HO3 : Hid (s.right = true → s.os.length ≤ 3) := right_outs
  obtain ⟨pp, cc, rfl, _⟩ := h.rows.2.2.2
  clear h b1 b2 b3 b4 b5 b6
  generalize queCode s b = PC at HL HF HU HK ⊢
  generalize queStn s b = PS at HL HF HU HK ⊢
  have hX0 : Hid _ := blk (heap_alloc_new w (.cells #[.int .i64 s.ad, .int .i64 s.bo, .int .i64 s.st, .int .i64 s.s.g, .int .i64 s.s.o, .int .i64 s.s.b, .int .i64 s.s.h, .int .i64 s.t.g, .int .i64 s.t.o, .int .i64 s.t.b, .int .i64 s.t.h, .int .i64 s.qu, .int .i64 s.tr, .int .i64 s.he, .int .i64 s.po, v1, v2, v3, .slice pp s.os.length cc] 33)) (all_alloc _ (.cells #[.int .i64 0, .int .i64 0, .int .i64 0, .int .i64 0, .int .i64 0, .int .i64 0, .int .i64 0, .int .i64 0, .int .i64 0, .int .i64 0, .int .i64 0, .int .i64 0, .int .i64 0, .int .i64 0, .int .i64 0, .slice none 0 0, .slice none 0 0, .slice none 0 0, .slice none 0 0, .slice none 0 0, .int .i64 0] 36))
  have hY0 : Hid _ := heap_alloc_new (w.alloc (.cells #[.int .i64 s.ad, .int .i64 s.bo, .int .i64 s.st, .int .i64 s.s.g, .int .i64 s.s.o, .int .i64 s.s.b, .int .i64 s.s.h, .int .i64 s.t.g, .int .i64 s.t.o, .int .i64 s.t.b, .int .i64 s.t.h, .int .i64 s.qu, .int .i64 s.tr, .int .i64 s.he, .int .i64 s.po, v1, v2, v3, .slice pp s.os.length cc] 33)) (.cells #[.int .i64 0, .int .i64 0, .int .i64 0, .int .i64 0, .int .i64 0, .int .i64 0, .int .i64 0, .int .i64 0, .int .i64 0, .int .i64 0, .int .i64 0, .int .i64 0, .int .i64 0, .int .i64 0, .int .i64 0, .slice none 0 0, .slice none 0 0, .slice none 0 0, .slice none 0 0, .slice none 0 0, .int .i64 0] 36)
  have hA0 : Below w.heap.size w ((w.alloc (.cells #[.int .i64 s.ad, .int .i64 s.bo, .int .i64 s.st, .int .i64 s.s.g, .int .i64 s.s.o, .int .i64 s.s.b, .int .i64 s.s.h, .int .i64 s.t.g, .int .i64 s.t.o, .int .i64 s.t.b, .int .i64 s.t.h, .int .i64 s.qu, .int .i64 s.tr, .int .i64 s.he, .int .i64 s.po, v1, v2, v3, .slice pp s.os.length cc] 33)).alloc (.cells #[.int .i64 0, .int .i64 0, .int .i64 0, .int .i64 0, .int .i64 0, .int .i64 0, .int .i64 0, .int .i64 0, .int .i64 0, .int .i64 0, .int .i64 0, .int .i64 0, .int .i64 0, .int .i64 0, .int .i64 0, .slice none 0 0, .slice none 0 0, .slice none 0 0, .slice none 0 0, .slice none 0 0, .int .i64 0] 36)) := keepB (all_alloc w _) (Nat.le_refl _) (all_alloc _ _)
  have hzA : ((w.alloc (.cells #[.int .i64 s.ad, .int .i64 s.bo, .int .i64 s.st, .int .i64 s.s.g, .int .i64 s.s.o, .int .i64 s.s.b, .int .i64 s.s.h, .int .i64 s.t.g, .int .i64 s.t.o, .int .i64 s.t.b, .int .i64 s.t.h, .int .i64 s.qu, .int .i64 s.tr, .int .i64 s.he, .int .i64 s.po, v1, v2, v3, .slice pp s.os.length cc] 33)).alloc (.cells #[.int .i64 0, .int .i64 0, .int .i64 0, .int .i64 0, .int .i64 0, .int .i64 0, .int .i64 0, .int .i64 0, .int .i64 0, .int .i64 0, .int .i64 0, .int .i64 0, .int .i64 0, .int .i64 0, .int .i64 0, .slice none 0 0, .slice none 0 0, .slice none 0 0, .slice none 0 0, .slice none 0 0, .int .i64 0] 36)).heap.size = w.heap.size + 1 + 1 := by simp
  rw [show (w.alloc (.cells #[.int .i64 s.ad, .int .i64 s.bo, .int .i64 s.st, .int .i64 s.s.g, .int .i64 s.s.o, .int .i64 s.s.b, .int .i64 s.s.h, .int .i64 s.t.g, .int .i64 s.t.o, .int .i64 s.t.b, .int .i64 s.t.h, .int .i64 s.qu, .int .i64 s.tr, .int .i64 s.he, .int .i64 s.po, v1, v2, v3, .slice pp s.os.length cc] 33)).heap.size = w.heap.size + 1 by simp] at hY0
  have hbn : (b.size : Int) ≤ 1048576 := by omega
  have HBR : Hid (∀ W : World, Calls Try.prog 43 #[.string b] W fun e w' => e = .returned (.bool (bodyQ b)) ∧ W = w') := fun W => bodyRight_any b W (by omega)
  by_cases h4 : 8000 < b.size
  · obtain ⟨rfl, rfl⟩ := HL.out h4
    have h4' : (8000 : Int) < (b.size : Int) := by omega
    clear HC HCP HF HU HK HL
    go_enter Try.func10, Try.ntmps10
    go_upto_region 1 with fail
    have hX := hX0
    have hY := hY0
    have hA := hA0
    generalize (w.alloc (.cells #[.int .i64 s.ad, .int .i64 s.bo, .int .i64 s.st, .int .i64 s.s.g, .int .i64 s.s.o, .int .i64 s.s.b, .int .i64 s.s.h, .int .i64 s.t.g, .int .i64 s.t.o, .int .i64 s.t.b, .int .i64 s.t.h, .int .i64 s.qu, .int .i64 s.tr, .int .i64 s.he, .int .i64 s.po, v1, v2, v3, .slice pp s.os.length cc] 33)).alloc (.cells #[.int .i64 0, .int .i64 0, .int .i64 0, .int .i64 0, .int .i64 0, .int .i64 0, .int .i64 0, .int .i64 0, .int .i64 0, .int .i64 0, .int .i64 0, .int .i64 0, .int .i64 0, .int .i64 0, .int .i64 0, .slice none 0 0, .slice none 0 0, .slice none 0 0, .slice none 0 0, .slice none 0 0, .int .i64 0] 36) = AA at hX hY hA hzA ⊢
    have hzA' : w.heap.size + 1 + 1 ≤ AA.heap.size := by omega
    clear hzA hX0 hY0 hA0
    go_wp2_with (first
      | (refine wpList_store_row rfl 36 (.tmp 4) (.tmp 8) rfl (w.heap.size + 1) #[.int .i64 0, .int .i64 0, .int .i64 0, .int .i64 0, .int .i64 0, .int .i64 0, .int .i64 0, .int .i64 0, .int .i64 0, .int .i64 0, .int .i64 0, .int .i64 0, .int .i64 0, .int .i64 0, .int .i64 0, .slice none 0 0, .slice none 0 0, .slice none 0 0, .slice none 0 0, .slice none 0 0, .int .i64 2] rfl rfl _ _ hY.out (by kernel_rfl) rfl (by simp [Value.oneCell']) ?_))
    go_wp2
    have hYf := setRow_heap _ (w.heap.size + 1) _ #[.int .i64 0, .int .i64 0, .int .i64 0, .int .i64 0, .int .i64 0, .int .i64 0, .int .i64 0, .int .i64 0, .int .i64 0, .int .i64 0, .int .i64 0, .int .i64 0, .int .i64 0, .int .i64 0, .int .i64 0, .slice none 0 0, .slice none 0 0, .slice none 0 0, .slice none 0 0, .slice none 0 0, .int .i64 2] _ _ hY.out
    have hAf : Below w.heap.size w _ := Below.setRow (hA) (g := w.heap.size + 1) (by omega) #[.int .i64 0, .int .i64 0, .int .i64 0, .int .i64 0, .int .i64 0, .int .i64 0, .int .i64 0, .int .i64 0, .int .i64 0, .int .i64 0, .int .i64 0, .int .i64 0, .int .i64 0, .int .i64 0, .int .i64 0, .slice none 0 0, .slice none 0 0, .slice none 0 0, .slice none 0 0, .slice none 0 0, .int .i64 2]
    exact bodyPost_ret (v := .agg #[.int .i64 0, .int .i64 0, .int .i64 0, .int .i64 0, .int .i64 0, .int .i64 0, .int .i64 0, .int .i64 0, .int .i64 0, .int .i64 0, .int .i64 0, .int .i64 0, .int .i64 0, .int .i64 0, .int .i64 0, .slice none 0 0, .slice none 0 0, .slice none 0 0, .slice none 0 0, .slice none 0 0, .int .i64 2]) (results_cell_row Try.results10 _ _ (w.heap.size + 1) _ _ _ _ rfl hYf Try.underlying36 rfl (by kernel_rfl)) rfl ⟨_, _, _, _, rfl, ((own_newS _ 0 0).stn.mono (by have := hAf.size; omega)), hAf⟩
  · have h4' : ¬ (8000 : Int) < (b.size : Int) := by omega
    by_cases hr : s.right = true
    rotate_left
    · have hr : s.right = false := by simpa using hr
      obtain ⟨rfl, rfl⟩ := HF.out (by simp [hr]) h4
      rw [hr] at HC
      clear HCP HF HU HK HL
      go_enter Try.func10, Try.ntmps10
      go_upto_region 1 with fail
      have hX := hX0
      have hY := hY0
      have hA := hA0
      generalize (w.alloc (.cells #[.int .i64 s.ad, .int .i64 s.bo, .int .i64 s.st, .int .i64 s.s.g, .int .i64 s.s.o, .int .i64 s.s.b, .int .i64 s.s.h, .int .i64 s.t.g, .int .i64 s.t.o, .int .i64 s.t.b, .int .i64 s.t.h, .int .i64 s.qu, .int .i64 s.tr, .int .i64 s.he, .int .i64 s.po, v1, v2, v3, .slice pp s.os.length cc] 33)).alloc (.cells #[.int .i64 0, .int .i64 0, .int .i64 0, .int .i64 0, .int .i64 0, .int .i64 0, .int .i64 0, .int .i64 0, .int .i64 0, .int .i64 0, .int .i64 0, .int .i64 0, .int .i64 0, .int .i64 0, .int .i64 0, .slice none 0 0, .slice none 0 0, .slice none 0 0, .slice none 0 0, .slice none 0 0, .int .i64 0] 36) = AA at hX hY hA hzA ⊢
      have hzA' : w.heap.size + 1 + 1 ≤ AA.heap.size := by omega
      clear hzA hX0 hY0 hA0
      go_wp2_with (first
        | (refine wpList_load_rowG (by rfl) 33 (.tmp 2) rfl w.heap.size rfl _ _ _ _ hX.out Try.underlying33 rfl (by kernel_rfl) ?_)
        | (go_at_call 42; refine (HC.out _ hA).mono ?_; rintro e w1 ⟨rfl, hb1⟩; have c18 := cellW hX.out 18 _ rfl w1 hb1)
        | (refine wpList_store_row rfl 36 (.tmp 4) (.tmp 17) rfl (w.heap.size + 1) #[.int .i64 0, .int .i64 0, .int .i64 0, .int .i64 0, .int .i64 0, .int .i64 0, .int .i64 0, .int .i64 0, .int .i64 0, .int .i64 0, .int .i64 0, .int .i64 0, .int .i64 0, .int .i64 0, .int .i64 0, .slice none 0 0, .slice none 0 0, .slice none 0 0, .slice none 0 0, .slice none 0 0, .int .i64 1] rfl rfl _ _ (blk hY.out hb1) (by kernel_rfl) rfl (by simp [Value.oneCell']) ?_))
      go_wp2
      have hYf := setRow_heap _ (w.heap.size + 1) _ #[.int .i64 0, .int .i64 0, .int .i64 0, .int .i64 0, .int .i64 0, .int .i64 0, .int .i64 0, .int .i64 0, .int .i64 0, .int .i64 0, .int .i64 0, .int .i64 0, .int .i64 0, .int .i64 0, .int .i64 0, .slice none 0 0, .slice none 0 0, .slice none 0 0, .slice none 0 0, .slice none 0 0, .int .i64 1] _ _ (blk hY.out hb1)
      have hAf : Below w.heap.size w _ := Below.setRow (keepB hA (Nat.le_refl _) hb1) (g := w.heap.size + 1) (by omega) #[.int .i64 0, .int .i64 0, .int .i64 0, .int .i64 0, .int .i64 0, .int .i64 0, .int .i64 0, .int .i64 0, .int .i64 0, .int .i64 0, .int .i64 0, .int .i64 0, .int .i64 0, .int .i64 0, .int .i64 0, .slice none 0 0, .slice none 0 0, .slice none 0 0, .slice none 0 0, .slice none 0 0, .int .i64 1]
      exact bodyPost_ret (v := .agg #[.int .i64 0, .int .i64 0, .int .i64 0, .int .i64 0, .int .i64 0, .int .i64 0, .int .i64 0, .int .i64 0, .int .i64 0, .int .i64 0, .int .i64 0, .int .i64 0, .int .i64 0, .int .i64 0, .int .i64 0, .slice none 0 0, .slice none 0 0, .slice none 0 0, .slice none 0 0, .slice none 0 0, .int .i64 1]) (results_cell_row Try.results10 _ _ (w.heap.size + 1) _ _ _ _ rfl hYf Try.underlying36 rfl (by kernel_rfl)) rfl ⟨_, _, _, _, rfl, ((own_newS _ 0 0).stn.mono (by have := hAf.size; omega)), hAf⟩
    · have hO := HO3.out hr
      cases hq : bodyQ b with
      | false =>
        obtain ⟨rfl, rfl⟩ := HF.out (by simp [hr, hq]) h4
        rw [hr] at HC
        clear HCP HF HU HK HL
        rw [hq] at HBR
        go_enter Try.func10, Try.ntmps10
        go_upto_region 1 with fail
        have hX := hX0
        have hY := hY0
        have hA := hA0
        generalize (w.alloc (.cells #[.int .i64 s.ad, .int .i64 s.bo, .int .i64 s.st, .int .i64 s.s.g, .int .i64 s.s.o, .int .i64 s.s.b, .int .i64 s.s.h, .int .i64 s.t.g, .int .i64 s.t.o, .int .i64 s.t.b, .int .i64 s.t.h, .int .i64 s.qu, .int .i64 s.tr, .int .i64 s.he, .int .i64 s.po, v1, v2, v3, .slice pp s.os.length cc] 33)).alloc (.cells #[.int .i64 0, .int .i64 0, .int .i64 0, .int .i64 0, .int .i64 0, .int .i64 0, .int .i64 0, .int .i64 0, .int .i64 0, .int .i64 0, .int .i64 0, .int .i64 0, .int .i64 0, .int .i64 0, .int .i64 0, .slice none 0 0, .slice none 0 0, .slice none 0 0, .slice none 0 0, .slice none 0 0, .int .i64 0] 36) = AA at hX hY hA hzA ⊢
        have hzA' : w.heap.size + 1 + 1 ≤ AA.heap.size := by omega
        clear hzA hX0 hY0 hA0
        go_wp2_with (first
          | (refine wpList_load_rowG (by rfl) 33 (.tmp 2) rfl w.heap.size rfl _ _ _ _ hX.out Try.underlying33 rfl (by kernel_rfl) ?_)
          | (go_at_call 42; refine (HC.out _ hA).mono ?_; rintro e w1 ⟨rfl, hb1⟩; have c18 := cellW hX.out 18 _ rfl w1 hb1)
          | (go_at_call 43; refine (HBR.out _).mono ?_; rintro e w0 ⟨rfl, rfl⟩)
          | (refine wpList_store_row rfl 36 (.tmp 4) (.tmp 17) rfl (w.heap.size + 1) #[.int .i64 0, .int .i64 0, .int .i64 0, .int .i64 0, .int .i64 0, .int .i64 0, .int .i64 0, .int .i64 0, .int .i64 0, .int .i64 0, .int .i64 0, .int .i64 0, .int .i64 0, .int .i64 0, .int .i64 0, .slice none 0 0, .slice none 0 0, .slice none 0 0, .slice none 0 0, .slice none 0 0, .int .i64 1] rfl rfl _ _ (blk hY.out hb1) (by kernel_rfl) rfl (by simp [Value.oneCell']) ?_))
        go_wp2
        have hYf := setRow_heap _ (w.heap.size + 1) _ #[.int .i64 0, .int .i64 0, .int .i64 0, .int .i64 0, .int .i64 0, .int .i64 0, .int .i64 0, .int .i64 0, .int .i64 0, .int .i64 0, .int .i64 0, .int .i64 0, .int .i64 0, .int .i64 0, .int .i64 0, .slice none 0 0, .slice none 0 0, .slice none 0 0, .slice none 0 0, .slice none 0 0, .int .i64 1] _ _ (blk hY.out hb1)
        have hAf : Below w.heap.size w _ := Below.setRow (keepB hA (Nat.le_refl _) hb1) (g := w.heap.size + 1) (by omega) #[.int .i64 0, .int .i64 0, .int .i64 0, .int .i64 0, .int .i64 0, .int .i64 0, .int .i64 0, .int .i64 0, .int .i64 0, .int .i64 0, .int .i64 0, .int .i64 0, .int .i64 0, .int .i64 0, .int .i64 0, .slice none 0 0, .slice none 0 0, .slice none 0 0, .slice none 0 0, .slice none 0 0, .int .i64 1]
        exact bodyPost_ret (v := .agg #[.int .i64 0, .int .i64 0, .int .i64 0, .int .i64 0, .int .i64 0, .int .i64 0, .int .i64 0, .int .i64 0, .int .i64 0, .int .i64 0, .int .i64 0, .int .i64 0, .int .i64 0, .int .i64 0, .int .i64 0, .slice none 0 0, .slice none 0 0, .slice none 0 0, .slice none 0 0, .slice none 0 0, .int .i64 1]) (results_cell_row Try.results10 _ _ (w.heap.size + 1) _ _ _ _ rfl hYf Try.underlying36 rfl (by kernel_rfl)) rfl ⟨_, _, _, _, rfl, ((own_newS _ 0 0).stn.mono (by have := hAf.size; omega)), hAf⟩
      | true =>
        have hsz : 1 ≤ b.size ∧ b.size ≤ 20 := by unfold bodyQ at hq; rw [Bool.and_eq_true] at hq; exact ⟨of_decide_eq_true hq.1, of_decide_eq_true hq.2⟩
        have h1' : ¬ (b.size : Int) < 1 := by omega
        have h20 : ¬ (20 : Int) < (b.size : Int) := by omega
        rw [hq] at HBR
        by_cases h5 : s.os.length = 3
        · obtain ⟨rfl, rfl⟩ := HU.out (by simp [hr, hq]) h4 h5
          have h5' : ((s.os.length : Int) == 3) = true := by simpa using (by omega : (s.os.length : Int) = 3)
          rw [hr] at HC
          clear HCP HF HU HK HL h5 hO
          go_enter Try.func10, Try.ntmps10
          go_upto_region 1 with fail
          have hX := hX0
          have hY := hY0
          have hA := hA0
          generalize (w.alloc (.cells #[.int .i64 s.ad, .int .i64 s.bo, .int .i64 s.st, .int .i64 s.s.g, .int .i64 s.s.o, .int .i64 s.s.b, .int .i64 s.s.h, .int .i64 s.t.g, .int .i64 s.t.o, .int .i64 s.t.b, .int .i64 s.t.h, .int .i64 s.qu, .int .i64 s.tr, .int .i64 s.he, .int .i64 s.po, v1, v2, v3, .slice pp s.os.length cc] 33)).alloc (.cells #[.int .i64 0, .int .i64 0, .int .i64 0, .int .i64 0, .int .i64 0, .int .i64 0, .int .i64 0, .int .i64 0, .int .i64 0, .int .i64 0, .int .i64 0, .int .i64 0, .int .i64 0, .int .i64 0, .int .i64 0, .slice none 0 0, .slice none 0 0, .slice none 0 0, .slice none 0 0, .slice none 0 0, .int .i64 0] 36) = AA at hX hY hA hzA ⊢
          have hzA' : w.heap.size + 1 + 1 ≤ AA.heap.size := by omega
          clear hzA hX0 hY0 hA0
          go_wp2_with (first
            | (refine wpList_load_rowG (by rfl) 33 (.tmp 2) rfl w.heap.size rfl _ _ _ _ hX.out Try.underlying33 rfl (by kernel_rfl) ?_)
            | (go_at_call 42; refine (HC.out _ hA).mono ?_; rintro e w1 ⟨rfl, hb1⟩; have c18 := cellW hX.out 18 _ rfl w1 hb1)
            | (go_at_call 43; refine (HBR.out _).mono ?_; rintro e w0 ⟨rfl, rfl⟩)
            | (refine wpList_store_row rfl 36 (.tmp 4) (.tmp 22) rfl (w.heap.size + 1) #[.int .i64 0, .int .i64 0, .int .i64 0, .int .i64 0, .int .i64 0, .int .i64 0, .int .i64 0, .int .i64 0, .int .i64 0, .int .i64 0, .int .i64 0, .int .i64 0, .int .i64 0, .int .i64 0, .int .i64 0, .slice none 0 0, .slice none 0 0, .slice none 0 0, .slice none 0 0, .slice none 0 0, .int .i64 9] rfl rfl _ _ (blk hY.out hb1) (by kernel_rfl) rfl (by simp [Value.oneCell']) ?_))
          go_wp2
          have hYf := setRow_heap _ (w.heap.size + 1) _ #[.int .i64 0, .int .i64 0, .int .i64 0, .int .i64 0, .int .i64 0, .int .i64 0, .int .i64 0, .int .i64 0, .int .i64 0, .int .i64 0, .int .i64 0, .int .i64 0, .int .i64 0, .int .i64 0, .int .i64 0, .slice none 0 0, .slice none 0 0, .slice none 0 0, .slice none 0 0, .slice none 0 0, .int .i64 9] _ _ (blk hY.out hb1)
          have hAf : Below w.heap.size w _ := Below.setRow (keepB hA (Nat.le_refl _) hb1) (g := w.heap.size + 1) (by omega) #[.int .i64 0, .int .i64 0, .int .i64 0, .int .i64 0, .int .i64 0, .int .i64 0, .int .i64 0, .int .i64 0, .int .i64 0, .int .i64 0, .int .i64 0, .int .i64 0, .int .i64 0, .int .i64 0, .int .i64 0, .slice none 0 0, .slice none 0 0, .slice none 0 0, .slice none 0 0, .slice none 0 0, .int .i64 9]
          exact bodyPost_ret (v := .agg #[.int .i64 0, .int .i64 0, .int .i64 0, .int .i64 0, .int .i64 0, .int .i64 0, .int .i64 0, .int .i64 0, .int .i64 0, .int .i64 0, .int .i64 0, .int .i64 0, .int .i64 0, .int .i64 0, .int .i64 0, .slice none 0 0, .slice none 0 0, .slice none 0 0, .slice none 0 0, .slice none 0 0, .int .i64 9]) (results_cell_row Try.results10 _ _ (w.heap.size + 1) _ _ _ _ rfl hYf Try.underlying36 rfl (by kernel_rfl)) rfl ⟨_, _, _, _, rfl, ((own_newS _ 0 0).stn.mono (by have := hAf.size; omega)), hAf⟩
        · obtain ⟨rfl, rfl⟩ := HK.out (by simp [hr, hq]) h4 h5
          have HCQ : Hid (∀ W, Below w.heap.size w W → Calls Try.prog 44 #[.agg #[.int .i64 s.ad, .int .i64 s.bo, .int .i64 s.st, .int .i64 s.s.g, .int .i64 s.s.o, .int .i64 s.s.b, .int .i64 s.s.h, .int .i64 s.t.g, .int .i64 s.t.o, .int .i64 s.t.b, .int .i64 s.t.h, .int .i64 s.qu, .int .i64 s.tr, .int .i64 s.he, .int .i64 s.po, v1, v2, v3, .slice pp s.os.length cc]] W fun e w' => ∃ u1 u2 u3 u4, e = .returned (.agg #[.int .i64 s.ad, .int .i64 s.bo, .int .i64 s.st, .int .i64 s.s.g, .int .i64 s.s.o, .int .i64 s.s.b, .int .i64 s.s.h, .int .i64 s.t.g, .int .i64 s.t.o, .int .i64 s.t.b, .int .i64 s.t.h, .int .i64 s.qu, .int .i64 s.tr, .int .i64 s.he, .int .i64 s.po, u1, u2, u3, u4]) ∧ OwnStn w' W.heap.size u1 u2 u3 u4 s ∧ Below W.heap.size W w') := HCP.out hr
          have h5' : ((s.os.length : Int) == 3) = false := by simpa using (by omega : ¬ (s.os.length : Int) = 3)
          have HT : Hid (∀ W : World, Calls Try.prog 45 #[.string b] W fun e w' => e = .returned (.string b) ∧ Below W.heap.size W w') := fun W => copyText_any b W (by omega)
          rw [hr] at HC
          clear HCP HF HU HK HL h5 hr hq
          go_enter Try.func10, Try.ntmps10
          go_upto_region 1 with fail
          have hX := hX0
          have hY := hY0
          have hA := hA0
          generalize (w.alloc (.cells #[.int .i64 s.ad, .int .i64 s.bo, .int .i64 s.st, .int .i64 s.s.g, .int .i64 s.s.o, .int .i64 s.s.b, .int .i64 s.s.h, .int .i64 s.t.g, .int .i64 s.t.o, .int .i64 s.t.b, .int .i64 s.t.h, .int .i64 s.qu, .int .i64 s.tr, .int .i64 s.he, .int .i64 s.po, v1, v2, v3, .slice pp s.os.length cc] 33)).alloc (.cells #[.int .i64 0, .int .i64 0, .int .i64 0, .int .i64 0, .int .i64 0, .int .i64 0, .int .i64 0, .int .i64 0, .int .i64 0, .int .i64 0, .int .i64 0, .int .i64 0, .int .i64 0, .int .i64 0, .int .i64 0, .slice none 0 0, .slice none 0 0, .slice none 0 0, .slice none 0 0, .slice none 0 0, .int .i64 0] 36) = AA at hX hY hA hzA ⊢
          have hzA' : w.heap.size + 1 + 1 ≤ AA.heap.size := by omega
          clear hzA hX0 hY0 hA0
          go_upto_region 7 with (first
            | (refine wpList_load_rowG (by rfl) 33 (.tmp 2) rfl w.heap.size rfl _ _ _ _ hX.out Try.underlying33 rfl (by kernel_rfl) ?_)
            | (go_at_call 43; refine (HBR.out _).mono ?_; rintro e w0 ⟨rfl, rfl⟩)
            | (go_at_call 42; refine (HC.out _ hA).mono ?_; rintro e w2 ⟨rfl, hb1⟩; have c18 := cellW hX.out 18 _ rfl w2 hb1))
          have hX2 : Hid _ := blk hX.out hb1
          have hY2 : Hid _ := blk hY.out hb1
          have hA2 := keepB hA (Nat.le_refl _) hb1
          have z2 := hb1.size
          clear c18
          go_upto_region 8 with (first
            | (refine wpList_load_rowG (by rfl) 33 (.tmp 2) rfl w.heap.size rfl _ _ _ _ hX2.out Try.underlying33 rfl (by kernel_rfl) ?_)
            | (go_at_call 44; refine (HCQ.out _ hA2).mono ?_; rintro e w3 ⟨u1, u2, u3, u4, rfl, own3, hb3⟩; obtain ⟨ra, rb, rc, rdd⟩ := own3.rows; obtain ⟨q1, d1, rfl, _⟩ := ra; obtain ⟨q2, d2, rfl, _⟩ := rb; obtain ⟨q3, d3, rfl, _⟩ := rc; obtain ⟨q4, d4, rfl, _⟩ := rdd)
            | (refine wpList_store_row rfl 33 (.tmp 2) (.tmp 24) rfl w.heap.size #[.int .i64 s.ad, .int .i64 s.bo, .int .i64 s.st, .int .i64 s.s.g, .int .i64 s.s.o, .int .i64 s.s.b, .int .i64 s.s.h, .int .i64 s.t.g, .int .i64 s.t.o, .int .i64 s.t.b, .int .i64 s.t.h, .int .i64 s.qu, .int .i64 s.tr, .int .i64 s.he, .int .i64 s.po, .slice q1 s.kn.length d1, .slice q2 s.ws.length d2, .slice q3 s.gs.length d3, .slice q4 s.os.length d4] rfl rfl _ _ (blk hX2.out hb3) (by kernel_rfl) rfl (by simp [Value.oneCell']) ?_))
          have hX3 : Hid _ := setRow_heap _ w.heap.size _ #[.int .i64 s.ad, .int .i64 s.bo, .int .i64 s.st, .int .i64 s.s.g, .int .i64 s.s.o, .int .i64 s.s.b, .int .i64 s.s.h, .int .i64 s.t.g, .int .i64 s.t.o, .int .i64 s.t.b, .int .i64 s.t.h, .int .i64 s.qu, .int .i64 s.tr, .int .i64 s.he, .int .i64 s.po, .slice q1 s.kn.length d1, .slice q2 s.ws.length d2, .slice q3 s.gs.length d3, .slice q4 s.os.length d4] _ _ (blk hX2.out hb3)
          have hY3 : Hid _ := (setRow_other w3 w.heap.size (w.heap.size + 1) #[.int .i64 s.ad, .int .i64 s.bo, .int .i64 s.st, .int .i64 s.s.g, .int .i64 s.s.o, .int .i64 s.s.b, .int .i64 s.s.h, .int .i64 s.t.g, .int .i64 s.t.o, .int .i64 s.t.b, .int .i64 s.t.h, .int .i64 s.qu, .int .i64 s.tr, .int .i64 s.he, .int .i64 s.po, .slice q1 s.kn.length d1, .slice q2 s.ws.length d2, .slice q3 s.gs.length d3, .slice q4 s.os.length d4] (by omega)).trans (blk hY2.out hb3)
          have hA3 : Below w.heap.size w (w3.setRow w.heap.size #[.int .i64 s.ad, .int .i64 s.bo, .int .i64 s.st, .int .i64 s.s.g, .int .i64 s.s.o, .int .i64 s.s.b, .int .i64 s.s.h, .int .i64 s.t.g, .int .i64 s.t.o, .int .i64 s.t.b, .int .i64 s.t.h, .int .i64 s.qu, .int .i64 s.tr, .int .i64 s.he, .int .i64 s.po, .slice q1 s.kn.length d1, .slice q2 s.ws.length d2, .slice q3 s.gs.length d3, .slice q4 s.os.length d4]) := Below.setRow (keepB hA2 (Nat.le_refl _) hb3) (Nat.le_refl _) _
          have z3 := hb3.size
          have o3 : Hid (OwnStnB (w3.setRow w.heap.size #[.int .i64 s.ad, .int .i64 s.bo, .int .i64 s.st, .int .i64 s.s.g, .int .i64 s.s.o, .int .i64 s.s.b, .int .i64 s.s.h, .int .i64 s.t.g, .int .i64 s.t.o, .int .i64 s.t.b, .int .i64 s.t.h, .int .i64 s.qu, .int .i64 s.tr, .int .i64 s.he, .int .i64 s.po, .slice q1 s.kn.length d1, .slice q2 s.ws.length d2, .slice q3 s.gs.length d3, .slice q4 s.os.length d4]) w2.heap.size w3.heap.size _ _ _ _ s) := own3.top.same (Same.setRow (.inl (by omega)) _) (by simp)
          have zr : (w3.setRow w.heap.size #[.int .i64 s.ad, .int .i64 s.bo, .int .i64 s.st, .int .i64 s.s.g, .int .i64 s.s.o, .int .i64 s.s.b, .int .i64 s.s.h, .int .i64 s.t.g, .int .i64 s.t.o, .int .i64 s.t.b, .int .i64 s.t.h, .int .i64 s.qu, .int .i64 s.tr, .int .i64 s.he, .int .i64 s.po, .slice q1 s.kn.length d1, .slice q2 s.ws.length d2, .slice q3 s.gs.length d3, .slice q4 s.os.length d4]).heap.size = w3.heap.size := by simp
          clear own3
          generalize w3.setRow w.heap.size #[.int .i64 s.ad, .int .i64 s.bo, .int .i64 s.st, .int .i64 s.s.g, .int .i64 s.s.o, .int .i64 s.s.b, .int .i64 s.s.h, .int .i64 s.t.g, .int .i64 s.t.o, .int .i64 s.t.b, .int .i64 s.t.h, .int .i64 s.qu, .int .i64 s.tr, .int .i64 s.he, .int .i64 s.po, .slice q1 s.kn.length d1, .slice q2 s.ws.length d2, .slice q3 s.gs.length d3, .slice q4 s.os.length d4] = w4 at hX3 hY3 hA3 o3 zr ⊢
          have zr' : w3.heap.size ≤ w4.heap.size := by omega
          clear zr
          have hR : Below w4.heap.size w4 w4.drew := Below.drew (Below.refl _ _)
          have g18 := cellW hX3.out 18 _ rfl w4.drew hR
          refine wp_region_held_drew (S := fun _ => True) (by kernel_rfl) ?_ (fun hHeld => ?_)
          · trivial
          refine yieldH (i := 0) (v := ?_) rfl (by kernel_rfl) (by decide +kernel) (by decide +kernel) (fun _ _ _ h => h) (by rfl) ?_ (by trivial) ?_; rotate_left
          · intro w hSw; (try dsimp only at hSw); go_simp; (try with_reducible rfl)
          try simp only [Act.put, List.setIfInBounds_toArray, List.set_cons_zero, List.set_cons_succ, List.getElem_toArray, List.getElem_cons_succ, List.getElem_cons_zero]
          refine yieldH (i := 2) (v := ?_) rfl (by kernel_rfl) (by decide +kernel) (by decide +kernel) (fun _ _ _ h => h) (by rfl) ?_ (by trivial) ?_; rotate_left
          · intro w hSw; (try dsimp only at hSw); go_simp; (try with_reducible rfl)
          try simp only [Act.put, List.setIfInBounds_toArray, List.set_cons_zero, List.set_cons_succ, List.getElem_toArray, List.getElem_cons_succ, List.getElem_cons_zero]
          refine wpAnyH_ready (rs := [1, 3]) (by kernel_rfl) (by simp) ?_
          refine AllReadyH.cons rfl (fun Kc hK => ?_) (AllReadyH.cons rfl (fun Kc hK => ?_) AllReadyH.nil)
          · go_simp
            try dsimp only
            refine hK.out _ _ ?_ (fun hHeld => ?_)
            · trivial
            clear hK Kc
            try simp only [Act.put, List.setIfInBounds_toArray, List.set_cons_zero, List.set_cons_succ, List.getElem_toArray, List.getElem_cons_succ, List.getElem_cons_zero]
            refine wpAnyH_ready (rs := [3]) (by kernel_rfl) (by simp) ?_
            refine AllReadyH.cons rfl (fun Kc hK => ?_) AllReadyH.nil
            go_simp
            go_at_call 45; refine (HT.out _).mono ?_; rintro e w5 ⟨rfl, hb5⟩; have t5 : Below w4.heap.size w4 w5 := keepB hR (Nat.le_refl _) hb5; have g18b := cellW hX3.out 18 _ rfl w5 t5; have g18c := cellW hX3.out 18 _ rfl (w5.alloc (.cells #[.string b] 9)) (keepB t5 (Nat.le_refl _) (all_alloc w5 (.cells #[.string b] 9)))
            try dsimp only
            refine hK.out _ _ ?_ (fun hHeld => ?_)
            · trivial
            clear hK Kc
            try simp only [Act.put, List.setIfInBounds_toArray, List.set_cons_zero, List.set_cons_succ, List.getElem_toArray, List.getElem_cons_succ, List.getElem_cons_zero]
            refine wpAnyH_ready (rs := [4]) (by kernel_rfl) (by simp) ?_
            refine AllReadyH.cons rfl (fun Kc hK => ?_) AllReadyH.nil
            go_simp
            try dsimp only
            refine hK.out _ _ ?_ (fun hHeld => ?_)
            · trivial
            clear hK Kc
            try simp only [Act.put, List.setIfInBounds_toArray, List.set_cons_zero, List.set_cons_succ, List.getElem_toArray, List.getElem_cons_succ, List.getElem_cons_zero]
            have hbL := all_alloc w5 (.cells #[.string b] 9)
            have z5 := t5.size
            have zL : (w5.alloc (.cells #[.string b] 9)).heap.size = w5.heap.size + 1 := by simp
            have hLc : Hid _ := heap_alloc_new w5 (.cells #[.string b] 9)
            obtain ⟨l1, h1, l2, h2, l3, h3, l4, h4b, ⟨a1, a2, a3, a4⟩, ⟨t1, t2, t3, t4⟩, o1, o2, oo3, o4, e12, e13, e14, e23, e24, e34⟩ := o3.out.all
            have tL : Below w4.heap.size w4 (w5.alloc (.cells #[.string b] 9)) := keepB t5 (Nat.le_refl _) hbL
            have o4L : OwnTB (w5.alloc (.cells #[.string b] 9)) l4 h4b _ s.os := o4.same (Same.below tL (by omega))
            obtain ⟨vq, w7, hrun7, own7, hgr7, hloc7⟩ := app_textK (w5.alloc (.cells #[.string b] 9)) 26 w2.heap.size _ s.os (owns_le o4L.1 (by omega)) w5.heap.size b (cellW hLc.out 0 _ rfl _ (Below.refl _ _)) (by omega) (by omega)
            have hst := OwnTB.more2 o4L own7 hloc7
            have y7 := Only.grown (lo := l4) (hi := h4b) hgr7 (fun k e => ⟨(o4L.1.lt k e).1, o4L.2 k e⟩)
            have z7 := y7.size
            obtain ⟨qw, dw, evq⟩ := own7.shape
            rw [List.length_append, List.length_singleton] at evq
            subst evq
            have n1 : OwnIB w7 l1 h1 _ s.kn := (o1.same (Same.below tL (by omega))).same (y7.same (by omega) (by omega))
            have n2 : OwnIB w7 l2 h2 _ s.ws := (o2.same (Same.below tL (by omega))).same (y7.same (by omega) (by omega))
            have n3 : OwnGB w7 l3 h3 _ s.gs := (oo3.same (Same.below tL (by omega))).same (y7.same (by omega) (by omega))
            have hX7 : Hid _ := (y7.block w.heap.size (by omega) (by omega)).trans (blk hX3.out tL)
            have hY7 : Hid _ := (y7.block (w.heap.size + 1) (by omega) (by omega)).trans (blk hY3.out tL)
            have hA7 : Below w.heap.size w w7 := (keepB hA3 (Nat.le_refl _) tL).trans (y7.frame (by omega) (by omega))
            have x18 := cellW hX7.out 18 _ rfl w7 (Below.refl _ _)
            have f18 := frozenW hX7.out 18 w7 (Below.refl _ _)
            have hST : Hid (OwnTB w7 l4 h4b (.slice qw (s.os.length + 1) dw) (s.os ++ [b]) ∨ OwnTB w7 (w5.heap.size + 1) w7.heap.size (.slice qw (s.os.length + 1) dw) (s.os ++ [b])) := (by rw [zL] at hst; exact hst : _ ∨ _)
            have N1 : Hid (OwnIB w7 l1 h1 _ s.kn) := n1
            have N2 : Hid (OwnIB w7 l2 h2 _ s.ws) := n2
            have N3 : Hid (OwnGB w7 l3 h3 _ s.gs) := n3
            have z7' : w5.heap.size + 1 ≤ w7.heap.size := by omega
            clear n1 n2 n3 hst own7 hgr7 hloc7 o1 o2 oo3 o4 o4L zL z7 y7
            refine wpAnyH_ready (rs := [5]) (by kernel_rfl) (by simp) ?_
            refine AllReadyH.cons rfl (fun Kc hK => ?_) AllReadyH.nil
            unfold Oper.wp
            simp [execOp, resolve, invoke, builtin, Act.eval, hrun7, Result.andThen]
            refine hK.out _ _ ?_ (fun hHeld => ?_)
            · trivial
            clear hK Kc
            try simp only [Act.put, List.setIfInBounds_toArray, List.set_cons_zero, List.set_cons_succ, List.getElem_toArray, List.getElem_cons_succ, List.getElem_cons_zero]
            refine yieldH (i := 6) (v := ?_) rfl (by kernel_rfl) (by decide +kernel) (by decide +kernel) (fun _ _ _ h => h) (by rfl) ?_ (by trivial) ?_; rotate_left
            · intro w hSw; (try dsimp only at hSw); go_simp; (try with_reducible rfl)
            try simp only [Act.put, List.setIfInBounds_toArray, List.set_cons_zero, List.set_cons_succ, List.getElem_toArray, List.getElem_cons_succ, List.getElem_cons_zero]
            refine wpAnyH_ready (rs := [7]) (by kernel_rfl) (by simp) ?_
            refine AllReadyH.cons rfl (fun Kc hK => ?_) AllReadyH.nil
            go_simp
            try dsimp only
            refine hK.out _ _ ?_ (fun hHeld => ?_)
            · trivial
            clear hK Kc
            try simp only [Act.put, List.setIfInBounds_toArray, List.set_cons_zero, List.set_cons_succ, List.getElem_toArray, List.getElem_cons_succ, List.getElem_cons_zero]
            refine wpAnyH_done (by kernel_rfl) ?_ _
            have hX8 : Hid (_ = some (Obj.cells #[.int .i64 s.ad, .int .i64 s.bo, .int .i64 s.st, .int .i64 s.s.g, .int .i64 s.s.o, .int .i64 s.s.b, .int .i64 s.s.h, .int .i64 s.t.g, .int .i64 s.t.o, .int .i64 s.t.b, .int .i64 s.t.h, .int .i64 s.qu, .int .i64 s.tr, .int .i64 s.he, .int .i64 s.po, .slice q1 s.kn.length d1, .slice q2 s.ws.length d2, .slice q3 s.gs.length d3, .slice qw (s.os.length + 1) dw] 33 (0, 0))) := blk_set hX7.out 18 (.slice qw (s.os.length + 1) dw)
            have hY8 : Hid _ := blk_far (a := ⟨w.heap.size, 18, none⟩) hY7.out (by simp only; omega) (.slice qw (s.os.length + 1) dw)
            have hA8 : Below w.heap.size w (w7.setCell ⟨w.heap.size, 18, none⟩ (.slice qw (s.os.length + 1) dw)) := hA7.setCell (by simp only; omega) _
            have hz8 : (w7.setCell ⟨w.heap.size, 18, none⟩ (.slice qw (s.os.length + 1) dw)).heap.size = w7.heap.size := by simp [World.setCell]
            have M1 : Hid (OwnIB (w7.setCell ⟨w.heap.size, 18, none⟩ (.slice qw (s.os.length + 1) dw)) l1 h1 _ s.kn) := N1.out.same (Same.far (a := ⟨w.heap.size, 18, none⟩) (by simp only; omega) _)
            have M2 : Hid (OwnIB (w7.setCell ⟨w.heap.size, 18, none⟩ (.slice qw (s.os.length + 1) dw)) l2 h2 _ s.ws) := N2.out.same (Same.far (a := ⟨w.heap.size, 18, none⟩) (by simp only; omega) _)
            have M3 : Hid (OwnGB (w7.setCell ⟨w.heap.size, 18, none⟩ (.slice qw (s.os.length + 1) dw)) l3 h3 _ s.gs) := N3.out.same (Same.far (a := ⟨w.heap.size, 18, none⟩) (by simp only; omega) _)
            have M4 : Hid (OwnTB (w7.setCell ⟨w.heap.size, 18, none⟩ (.slice qw (s.os.length + 1) dw)) l4 h4b (.slice qw (s.os.length + 1) dw) (s.os ++ [b]) ∨ OwnTB (w7.setCell ⟨w.heap.size, 18, none⟩ (.slice qw (s.os.length + 1) dw)) (w5.heap.size + 1) w7.heap.size (.slice qw (s.os.length + 1) dw) (s.os ++ [b])) := hST.out.imp (fun h => h.same (Same.far (a := ⟨w.heap.size, 18, none⟩) (by simp only; omega) _)) (fun h => h.same (Same.far (a := ⟨w.heap.size, 18, none⟩) (by simp only; omega) _))
            generalize (w7.setCell ⟨w.heap.size, 18, none⟩ (.slice qw (s.os.length + 1) dw)) = w8 at hX8 hY8 hA8 hz8 M1 M2 M3 M4 ⊢
            go_wp2_with (first
              | (refine wpList_load_rowG (by rfl) 33 (.tmp 2) rfl w.heap.size rfl _ _ _ _ hX8.out Try.underlying33 rfl (by kernel_rfl) ?_)
              | (refine wpList_store_row rfl 36 (.tmp 4) (.tmp 33) rfl (w.heap.size + 1) #[.int .i64 s.ad, .int .i64 s.bo, .int .i64 s.st, .int .i64 s.s.g, .int .i64 s.s.o, .int .i64 s.s.b, .int .i64 s.s.h, .int .i64 s.t.g, .int .i64 s.t.o, .int .i64 s.t.b, .int .i64 s.t.h, .int .i64 s.qu, .int .i64 s.tr, .int .i64 s.he, .int .i64 s.po, .slice q1 s.kn.length d1, .slice q2 s.ws.length d2, .slice q3 s.gs.length d3, .slice qw (s.os.length + 1) dw, .slice none 0 0, .int .i64 0] rfl rfl _ _ hY8.out (by kernel_rfl) rfl (by simp [Value.oneCell']) ?_))
            go_wp2
            have hYf := setRow_heap _ (w.heap.size + 1) _ #[.int .i64 s.ad, .int .i64 s.bo, .int .i64 s.st, .int .i64 s.s.g, .int .i64 s.s.o, .int .i64 s.s.b, .int .i64 s.s.h, .int .i64 s.t.g, .int .i64 s.t.o, .int .i64 s.t.b, .int .i64 s.t.h, .int .i64 s.qu, .int .i64 s.tr, .int .i64 s.he, .int .i64 s.po, .slice q1 s.kn.length d1, .slice q2 s.ws.length d2, .slice q3 s.gs.length d3, .slice qw (s.os.length + 1) dw, .slice none 0 0, .int .i64 0] _ _ hY8.out
            have hAf : Below w.heap.size w _ := Below.setRow (hA8) (g := w.heap.size + 1) (by omega) #[.int .i64 s.ad, .int .i64 s.bo, .int .i64 s.st, .int .i64 s.s.g, .int .i64 s.s.o, .int .i64 s.s.b, .int .i64 s.s.h, .int .i64 s.t.g, .int .i64 s.t.o, .int .i64 s.t.b, .int .i64 s.t.h, .int .i64 s.qu, .int .i64 s.tr, .int .i64 s.he, .int .i64 s.po, .slice q1 s.kn.length d1, .slice q2 s.ws.length d2, .slice q3 s.gs.length d3, .slice qw (s.os.length + 1) dw, .slice none 0 0, .int .i64 0]
            rcases M4.out with hm4 | hm4
            · exact bodyPost_ret (v := .agg #[.int .i64 s.ad, .int .i64 s.bo, .int .i64 s.st, .int .i64 s.s.g, .int .i64 s.s.o, .int .i64 s.s.b, .int .i64 s.s.h, .int .i64 s.t.g, .int .i64 s.t.o, .int .i64 s.t.b, .int .i64 s.t.h, .int .i64 s.qu, .int .i64 s.tr, .int .i64 s.he, .int .i64 s.po, .slice q1 s.kn.length d1, .slice q2 s.ws.length d2, .slice q3 s.gs.length d3, .slice qw (s.os.length + 1) dw, .slice none 0 0, .int .i64 0]) (results_cell_row Try.results10 _ _ (w.heap.size + 1) _ _ _ _ rfl hYf Try.underlying36 rfl (by kernel_rfl)) rfl ⟨_, _, _, _, rfl, ⟨⟨l1, h1, l2, h2, l3, h3, l4, h4b, ⟨by omega, by omega, by omega, by omega⟩, by rw [setRow_size]; exact ⟨by omega, by omega, by omega, by omega⟩, M1.out.same (Same.setRow (by omega) _), M2.out.same (Same.setRow (by omega) _), M3.out.same (Same.setRow (by omega) _), hm4.same (Same.setRow (by omega) _), by omega, by omega, by omega, by omega, by omega, by omega⟩⟩, hAf⟩
            · exact bodyPost_ret (v := .agg #[.int .i64 s.ad, .int .i64 s.bo, .int .i64 s.st, .int .i64 s.s.g, .int .i64 s.s.o, .int .i64 s.s.b, .int .i64 s.s.h, .int .i64 s.t.g, .int .i64 s.t.o, .int .i64 s.t.b, .int .i64 s.t.h, .int .i64 s.qu, .int .i64 s.tr, .int .i64 s.he, .int .i64 s.po, .slice q1 s.kn.length d1, .slice q2 s.ws.length d2, .slice q3 s.gs.length d3, .slice qw (s.os.length + 1) dw, .slice none 0 0, .int .i64 0]) (results_cell_row Try.results10 _ _ (w.heap.size + 1) _ _ _ _ rfl hYf Try.underlying36 rfl (by kernel_rfl)) rfl ⟨_, _, _, _, rfl, ⟨⟨l1, h1, l2, h2, l3, h3, w5.heap.size + 1, w7.heap.size, ⟨by omega, by omega, by omega, by omega⟩, by rw [setRow_size]; exact ⟨by omega, by omega, by omega, by omega⟩, M1.out.same (Same.setRow (by omega) _), M2.out.same (Same.setRow (by omega) _), M3.out.same (Same.setRow (by omega) _), hm4.same (Same.setRow (by omega) _), by omega, by omega, by omega, by omega, by omega, by omega⟩⟩, hAf⟩
          · go_simp
            go_at_call 45; refine (HT.out _).mono ?_; rintro e w5 ⟨rfl, hb5⟩; have t5 : Below w4.heap.size w4 w5 := keepB hR (Nat.le_refl _) hb5; have g18b := cellW hX3.out 18 _ rfl w5 t5; have g18c := cellW hX3.out 18 _ rfl (w5.alloc (.cells #[.string b] 9)) (keepB t5 (Nat.le_refl _) (all_alloc w5 (.cells #[.string b] 9)))
            try dsimp only
            refine hK.out _ _ ?_ (fun hHeld => ?_)
            · trivial
            clear hK Kc
            try simp only [Act.put, List.setIfInBounds_toArray, List.set_cons_zero, List.set_cons_succ, List.getElem_toArray, List.getElem_cons_succ, List.getElem_cons_zero]
            refine wpAnyH_ready (rs := [1, 4]) (by kernel_rfl) (by simp) ?_
            refine AllReadyH.cons rfl (fun Kc hK => ?_) (AllReadyH.cons rfl (fun Kc hK => ?_) AllReadyH.nil)
            · go_simp
              try dsimp only
              refine hK.out _ _ ?_ (fun hHeld => ?_)
              · trivial
              clear hK Kc
              try simp only [Act.put, List.setIfInBounds_toArray, List.set_cons_zero, List.set_cons_succ, List.getElem_toArray, List.getElem_cons_succ, List.getElem_cons_zero]
              refine wpAnyH_ready (rs := [4]) (by kernel_rfl) (by simp) ?_
              refine AllReadyH.cons rfl (fun Kc hK => ?_) AllReadyH.nil
              go_simp
              try dsimp only
              refine hK.out _ _ ?_ (fun hHeld => ?_)
              · trivial
              clear hK Kc
              try simp only [Act.put, List.setIfInBounds_toArray, List.set_cons_zero, List.set_cons_succ, List.getElem_toArray, List.getElem_cons_succ, List.getElem_cons_zero]
              have hbL := all_alloc w5 (.cells #[.string b] 9)
              have z5 := t5.size
              have zL : (w5.alloc (.cells #[.string b] 9)).heap.size = w5.heap.size + 1 := by simp
              have hLc : Hid _ := heap_alloc_new w5 (.cells #[.string b] 9)
              obtain ⟨l1, h1, l2, h2, l3, h3, l4, h4b, ⟨a1, a2, a3, a4⟩, ⟨t1, t2, t3, t4⟩, o1, o2, oo3, o4, e12, e13, e14, e23, e24, e34⟩ := o3.out.all
              have tL : Below w4.heap.size w4 (w5.alloc (.cells #[.string b] 9)) := keepB t5 (Nat.le_refl _) hbL
              have o4L : OwnTB (w5.alloc (.cells #[.string b] 9)) l4 h4b _ s.os := o4.same (Same.below tL (by omega))
              obtain ⟨vq, w7, hrun7, own7, hgr7, hloc7⟩ := app_textK (w5.alloc (.cells #[.string b] 9)) 26 w2.heap.size _ s.os (owns_le o4L.1 (by omega)) w5.heap.size b (cellW hLc.out 0 _ rfl _ (Below.refl _ _)) (by omega) (by omega)
              have hst := OwnTB.more2 o4L own7 hloc7
              have y7 := Only.grown (lo := l4) (hi := h4b) hgr7 (fun k e => ⟨(o4L.1.lt k e).1, o4L.2 k e⟩)
              have z7 := y7.size
              obtain ⟨qw, dw, evq⟩ := own7.shape
              rw [List.length_append, List.length_singleton] at evq
              subst evq
              have n1 : OwnIB w7 l1 h1 _ s.kn := (o1.same (Same.below tL (by omega))).same (y7.same (by omega) (by omega))
              have n2 : OwnIB w7 l2 h2 _ s.ws := (o2.same (Same.below tL (by omega))).same (y7.same (by omega) (by omega))
              have n3 : OwnGB w7 l3 h3 _ s.gs := (oo3.same (Same.below tL (by omega))).same (y7.same (by omega) (by omega))
              have hX7 : Hid _ := (y7.block w.heap.size (by omega) (by omega)).trans (blk hX3.out tL)
              have hY7 : Hid _ := (y7.block (w.heap.size + 1) (by omega) (by omega)).trans (blk hY3.out tL)
              have hA7 : Below w.heap.size w w7 := (keepB hA3 (Nat.le_refl _) tL).trans (y7.frame (by omega) (by omega))
              have x18 := cellW hX7.out 18 _ rfl w7 (Below.refl _ _)
              have f18 := frozenW hX7.out 18 w7 (Below.refl _ _)
              have hST : Hid (OwnTB w7 l4 h4b (.slice qw (s.os.length + 1) dw) (s.os ++ [b]) ∨ OwnTB w7 (w5.heap.size + 1) w7.heap.size (.slice qw (s.os.length + 1) dw) (s.os ++ [b])) := (by rw [zL] at hst; exact hst : _ ∨ _)
              have N1 : Hid (OwnIB w7 l1 h1 _ s.kn) := n1
              have N2 : Hid (OwnIB w7 l2 h2 _ s.ws) := n2
              have N3 : Hid (OwnGB w7 l3 h3 _ s.gs) := n3
              have z7' : w5.heap.size + 1 ≤ w7.heap.size := by omega
              clear n1 n2 n3 hst own7 hgr7 hloc7 o1 o2 oo3 o4 o4L zL z7 y7
              refine wpAnyH_ready (rs := [5]) (by kernel_rfl) (by simp) ?_
              refine AllReadyH.cons rfl (fun Kc hK => ?_) AllReadyH.nil
              unfold Oper.wp
              simp [execOp, resolve, invoke, builtin, Act.eval, hrun7, Result.andThen]
              refine hK.out _ _ ?_ (fun hHeld => ?_)
              · trivial
              clear hK Kc
              try simp only [Act.put, List.setIfInBounds_toArray, List.set_cons_zero, List.set_cons_succ, List.getElem_toArray, List.getElem_cons_succ, List.getElem_cons_zero]
              refine yieldH (i := 6) (v := ?_) rfl (by kernel_rfl) (by decide +kernel) (by decide +kernel) (fun _ _ _ h => h) (by rfl) ?_ (by trivial) ?_; rotate_left
              · intro w hSw; (try dsimp only at hSw); go_simp; (try with_reducible rfl)
              try simp only [Act.put, List.setIfInBounds_toArray, List.set_cons_zero, List.set_cons_succ, List.getElem_toArray, List.getElem_cons_succ, List.getElem_cons_zero]
              refine wpAnyH_ready (rs := [7]) (by kernel_rfl) (by simp) ?_
              refine AllReadyH.cons rfl (fun Kc hK => ?_) AllReadyH.nil
              go_simp
              try dsimp only
              refine hK.out _ _ ?_ (fun hHeld => ?_)
              · trivial
              clear hK Kc
              try simp only [Act.put, List.setIfInBounds_toArray, List.set_cons_zero, List.set_cons_succ, List.getElem_toArray, List.getElem_cons_succ, List.getElem_cons_zero]
              refine wpAnyH_done (by kernel_rfl) ?_ _
              have hX8 : Hid (_ = some (Obj.cells #[.int .i64 s.ad, .int .i64 s.bo, .int .i64 s.st, .int .i64 s.s.g, .int .i64 s.s.o, .int .i64 s.s.b, .int .i64 s.s.h, .int .i64 s.t.g, .int .i64 s.t.o, .int .i64 s.t.b, .int .i64 s.t.h, .int .i64 s.qu, .int .i64 s.tr, .int .i64 s.he, .int .i64 s.po, .slice q1 s.kn.length d1, .slice q2 s.ws.length d2, .slice q3 s.gs.length d3, .slice qw (s.os.length + 1) dw] 33 (0, 0))) := blk_set hX7.out 18 (.slice qw (s.os.length + 1) dw)
              have hY8 : Hid _ := blk_far (a := ⟨w.heap.size, 18, none⟩) hY7.out (by simp only; omega) (.slice qw (s.os.length + 1) dw)
              have hA8 : Below w.heap.size w (w7.setCell ⟨w.heap.size, 18, none⟩ (.slice qw (s.os.length + 1) dw)) := hA7.setCell (by simp only; omega) _
              have hz8 : (w7.setCell ⟨w.heap.size, 18, none⟩ (.slice qw (s.os.length + 1) dw)).heap.size = w7.heap.size := by simp [World.setCell]
              have M1 : Hid (OwnIB (w7.setCell ⟨w.heap.size, 18, none⟩ (.slice qw (s.os.length + 1) dw)) l1 h1 _ s.kn) := N1.out.same (Same.far (a := ⟨w.heap.size, 18, none⟩) (by simp only; omega) _)
              have M2 : Hid (OwnIB (w7.setCell ⟨w.heap.size, 18, none⟩ (.slice qw (s.os.length + 1) dw)) l2 h2 _ s.ws) := N2.out.same (Same.far (a := ⟨w.heap.size, 18, none⟩) (by simp only; omega) _)
              have M3 : Hid (OwnGB (w7.setCell ⟨w.heap.size, 18, none⟩ (.slice qw (s.os.length + 1) dw)) l3 h3 _ s.gs) := N3.out.same (Same.far (a := ⟨w.heap.size, 18, none⟩) (by simp only; omega) _)
              have M4 : Hid (OwnTB (w7.setCell ⟨w.heap.size, 18, none⟩ (.slice qw (s.os.length + 1) dw)) l4 h4b (.slice qw (s.os.length + 1) dw) (s.os ++ [b]) ∨ OwnTB (w7.setCell ⟨w.heap.size, 18, none⟩ (.slice qw (s.os.length + 1) dw)) (w5.heap.size + 1) w7.heap.size (.slice qw (s.os.length + 1) dw) (s.os ++ [b])) := hST.out.imp (fun h => h.same (Same.far (a := ⟨w.heap.size, 18, none⟩) (by simp only; omega) _)) (fun h => h.same (Same.far (a := ⟨w.heap.size, 18, none⟩) (by simp only; omega) _))
              generalize (w7.setCell ⟨w.heap.size, 18, none⟩ (.slice qw (s.os.length + 1) dw)) = w8 at hX8 hY8 hA8 hz8 M1 M2 M3 M4 ⊢
              go_wp2_with (first
                | (refine wpList_load_rowG (by rfl) 33 (.tmp 2) rfl w.heap.size rfl _ _ _ _ hX8.out Try.underlying33 rfl (by kernel_rfl) ?_)
                | (refine wpList_store_row rfl 36 (.tmp 4) (.tmp 33) rfl (w.heap.size + 1) #[.int .i64 s.ad, .int .i64 s.bo, .int .i64 s.st, .int .i64 s.s.g, .int .i64 s.s.o, .int .i64 s.s.b, .int .i64 s.s.h, .int .i64 s.t.g, .int .i64 s.t.o, .int .i64 s.t.b, .int .i64 s.t.h, .int .i64 s.qu, .int .i64 s.tr, .int .i64 s.he, .int .i64 s.po, .slice q1 s.kn.length d1, .slice q2 s.ws.length d2, .slice q3 s.gs.length d3, .slice qw (s.os.length + 1) dw, .slice none 0 0, .int .i64 0] rfl rfl _ _ hY8.out (by kernel_rfl) rfl (by simp [Value.oneCell']) ?_))
              go_wp2
              have hYf := setRow_heap _ (w.heap.size + 1) _ #[.int .i64 s.ad, .int .i64 s.bo, .int .i64 s.st, .int .i64 s.s.g, .int .i64 s.s.o, .int .i64 s.s.b, .int .i64 s.s.h, .int .i64 s.t.g, .int .i64 s.t.o, .int .i64 s.t.b, .int .i64 s.t.h, .int .i64 s.qu, .int .i64 s.tr, .int .i64 s.he, .int .i64 s.po, .slice q1 s.kn.length d1, .slice q2 s.ws.length d2, .slice q3 s.gs.length d3, .slice qw (s.os.length + 1) dw, .slice none 0 0, .int .i64 0] _ _ hY8.out
              have hAf : Below w.heap.size w _ := Below.setRow (hA8) (g := w.heap.size + 1) (by omega) #[.int .i64 s.ad, .int .i64 s.bo, .int .i64 s.st, .int .i64 s.s.g, .int .i64 s.s.o, .int .i64 s.s.b, .int .i64 s.s.h, .int .i64 s.t.g, .int .i64 s.t.o, .int .i64 s.t.b, .int .i64 s.t.h, .int .i64 s.qu, .int .i64 s.tr, .int .i64 s.he, .int .i64 s.po, .slice q1 s.kn.length d1, .slice q2 s.ws.length d2, .slice q3 s.gs.length d3, .slice qw (s.os.length + 1) dw, .slice none 0 0, .int .i64 0]
              rcases M4.out with hm4 | hm4
              · exact bodyPost_ret (v := .agg #[.int .i64 s.ad, .int .i64 s.bo, .int .i64 s.st, .int .i64 s.s.g, .int .i64 s.s.o, .int .i64 s.s.b, .int .i64 s.s.h, .int .i64 s.t.g, .int .i64 s.t.o, .int .i64 s.t.b, .int .i64 s.t.h, .int .i64 s.qu, .int .i64 s.tr, .int .i64 s.he, .int .i64 s.po, .slice q1 s.kn.length d1, .slice q2 s.ws.length d2, .slice q3 s.gs.length d3, .slice qw (s.os.length + 1) dw, .slice none 0 0, .int .i64 0]) (results_cell_row Try.results10 _ _ (w.heap.size + 1) _ _ _ _ rfl hYf Try.underlying36 rfl (by kernel_rfl)) rfl ⟨_, _, _, _, rfl, ⟨⟨l1, h1, l2, h2, l3, h3, l4, h4b, ⟨by omega, by omega, by omega, by omega⟩, by rw [setRow_size]; exact ⟨by omega, by omega, by omega, by omega⟩, M1.out.same (Same.setRow (by omega) _), M2.out.same (Same.setRow (by omega) _), M3.out.same (Same.setRow (by omega) _), hm4.same (Same.setRow (by omega) _), by omega, by omega, by omega, by omega, by omega, by omega⟩⟩, hAf⟩
              · exact bodyPost_ret (v := .agg #[.int .i64 s.ad, .int .i64 s.bo, .int .i64 s.st, .int .i64 s.s.g, .int .i64 s.s.o, .int .i64 s.s.b, .int .i64 s.s.h, .int .i64 s.t.g, .int .i64 s.t.o, .int .i64 s.t.b, .int .i64 s.t.h, .int .i64 s.qu, .int .i64 s.tr, .int .i64 s.he, .int .i64 s.po, .slice q1 s.kn.length d1, .slice q2 s.ws.length d2, .slice q3 s.gs.length d3, .slice qw (s.os.length + 1) dw, .slice none 0 0, .int .i64 0]) (results_cell_row Try.results10 _ _ (w.heap.size + 1) _ _ _ _ rfl hYf Try.underlying36 rfl (by kernel_rfl)) rfl ⟨_, _, _, _, rfl, ⟨⟨l1, h1, l2, h2, l3, h3, w5.heap.size + 1, w7.heap.size, ⟨by omega, by omega, by omega, by omega⟩, by rw [setRow_size]; exact ⟨by omega, by omega, by omega, by omega⟩, M1.out.same (Same.setRow (by omega) _), M2.out.same (Same.setRow (by omega) _), M3.out.same (Same.setRow (by omega) _), hm4.same (Same.setRow (by omega) _), by omega, by omega, by omega, by omega, by omega, by omega⟩⟩, hAf⟩
            · go_simp
              try dsimp only
              refine hK.out _ _ ?_ (fun hHeld => ?_)
              · trivial
              clear hK Kc
              try simp only [Act.put, List.setIfInBounds_toArray, List.set_cons_zero, List.set_cons_succ, List.getElem_toArray, List.getElem_cons_succ, List.getElem_cons_zero]
              refine wpAnyH_ready (rs := [1]) (by kernel_rfl) (by simp) ?_
              refine AllReadyH.cons rfl (fun Kc hK => ?_) AllReadyH.nil
              go_simp
              try dsimp only
              refine hK.out _ _ ?_ (fun hHeld => ?_)
              · trivial
              clear hK Kc
              try simp only [Act.put, List.setIfInBounds_toArray, List.set_cons_zero, List.set_cons_succ, List.getElem_toArray, List.getElem_cons_succ, List.getElem_cons_zero]
              have hbL := all_alloc w5 (.cells #[.string b] 9)
              have z5 := t5.size
              have zL : (w5.alloc (.cells #[.string b] 9)).heap.size = w5.heap.size + 1 := by simp
              have hLc : Hid _ := heap_alloc_new w5 (.cells #[.string b] 9)
              obtain ⟨l1, h1, l2, h2, l3, h3, l4, h4b, ⟨a1, a2, a3, a4⟩, ⟨t1, t2, t3, t4⟩, o1, o2, oo3, o4, e12, e13, e14, e23, e24, e34⟩ := o3.out.all
              have tL : Below w4.heap.size w4 (w5.alloc (.cells #[.string b] 9)) := keepB t5 (Nat.le_refl _) hbL
              have o4L : OwnTB (w5.alloc (.cells #[.string b] 9)) l4 h4b _ s.os := o4.same (Same.below tL (by omega))
              obtain ⟨vq, w7, hrun7, own7, hgr7, hloc7⟩ := app_textK (w5.alloc (.cells #[.string b] 9)) 26 w2.heap.size _ s.os (owns_le o4L.1 (by omega)) w5.heap.size b (cellW hLc.out 0 _ rfl _ (Below.refl _ _)) (by omega) (by omega)
              have hst := OwnTB.more2 o4L own7 hloc7
              have y7 := Only.grown (lo := l4) (hi := h4b) hgr7 (fun k e => ⟨(o4L.1.lt k e).1, o4L.2 k e⟩)
              have z7 := y7.size
              obtain ⟨qw, dw, evq⟩ := own7.shape
              rw [List.length_append, List.length_singleton] at evq
              subst evq
              have n1 : OwnIB w7 l1 h1 _ s.kn := (o1.same (Same.below tL (by omega))).same (y7.same (by omega) (by omega))
              have n2 : OwnIB w7 l2 h2 _ s.ws := (o2.same (Same.below tL (by omega))).same (y7.same (by omega) (by omega))
              have n3 : OwnGB w7 l3 h3 _ s.gs := (oo3.same (Same.below tL (by omega))).same (y7.same (by omega) (by omega))
              have hX7 : Hid _ := (y7.block w.heap.size (by omega) (by omega)).trans (blk hX3.out tL)
              have hY7 : Hid _ := (y7.block (w.heap.size + 1) (by omega) (by omega)).trans (blk hY3.out tL)
              have hA7 : Below w.heap.size w w7 := (keepB hA3 (Nat.le_refl _) tL).trans (y7.frame (by omega) (by omega))
              have x18 := cellW hX7.out 18 _ rfl w7 (Below.refl _ _)
              have f18 := frozenW hX7.out 18 w7 (Below.refl _ _)
              have hST : Hid (OwnTB w7 l4 h4b (.slice qw (s.os.length + 1) dw) (s.os ++ [b]) ∨ OwnTB w7 (w5.heap.size + 1) w7.heap.size (.slice qw (s.os.length + 1) dw) (s.os ++ [b])) := (by rw [zL] at hst; exact hst : _ ∨ _)
              have N1 : Hid (OwnIB w7 l1 h1 _ s.kn) := n1
              have N2 : Hid (OwnIB w7 l2 h2 _ s.ws) := n2
              have N3 : Hid (OwnGB w7 l3 h3 _ s.gs) := n3
              have z7' : w5.heap.size + 1 ≤ w7.heap.size := by omega
              clear n1 n2 n3 hst own7 hgr7 hloc7 o1 o2 oo3 o4 o4L zL z7 y7
              refine wpAnyH_ready (rs := [5]) (by kernel_rfl) (by simp) ?_
              refine AllReadyH.cons rfl (fun Kc hK => ?_) AllReadyH.nil
              unfold Oper.wp
              simp [execOp, resolve, invoke, builtin, Act.eval, hrun7, Result.andThen]
              refine hK.out _ _ ?_ (fun hHeld => ?_)
              · trivial
              clear hK Kc
              try simp only [Act.put, List.setIfInBounds_toArray, List.set_cons_zero, List.set_cons_succ, List.getElem_toArray, List.getElem_cons_succ, List.getElem_cons_zero]
              refine yieldH (i := 6) (v := ?_) rfl (by kernel_rfl) (by decide +kernel) (by decide +kernel) (fun _ _ _ h => h) (by rfl) ?_ (by trivial) ?_; rotate_left
              · intro w hSw; (try dsimp only at hSw); go_simp; (try with_reducible rfl)
              try simp only [Act.put, List.setIfInBounds_toArray, List.set_cons_zero, List.set_cons_succ, List.getElem_toArray, List.getElem_cons_succ, List.getElem_cons_zero]
              refine wpAnyH_ready (rs := [7]) (by kernel_rfl) (by simp) ?_
              refine AllReadyH.cons rfl (fun Kc hK => ?_) AllReadyH.nil
              go_simp
              try dsimp only
              refine hK.out _ _ ?_ (fun hHeld => ?_)
              · trivial
              clear hK Kc
              try simp only [Act.put, List.setIfInBounds_toArray, List.set_cons_zero, List.set_cons_succ, List.getElem_toArray, List.getElem_cons_succ, List.getElem_cons_zero]
              refine wpAnyH_done (by kernel_rfl) ?_ _
              have hX8 : Hid (_ = some (Obj.cells #[.int .i64 s.ad, .int .i64 s.bo, .int .i64 s.st, .int .i64 s.s.g, .int .i64 s.s.o, .int .i64 s.s.b, .int .i64 s.s.h, .int .i64 s.t.g, .int .i64 s.t.o, .int .i64 s.t.b, .int .i64 s.t.h, .int .i64 s.qu, .int .i64 s.tr, .int .i64 s.he, .int .i64 s.po, .slice q1 s.kn.length d1, .slice q2 s.ws.length d2, .slice q3 s.gs.length d3, .slice qw (s.os.length + 1) dw] 33 (0, 0))) := blk_set hX7.out 18 (.slice qw (s.os.length + 1) dw)
              have hY8 : Hid _ := blk_far (a := ⟨w.heap.size, 18, none⟩) hY7.out (by simp only; omega) (.slice qw (s.os.length + 1) dw)
              have hA8 : Below w.heap.size w (w7.setCell ⟨w.heap.size, 18, none⟩ (.slice qw (s.os.length + 1) dw)) := hA7.setCell (by simp only; omega) _
              have hz8 : (w7.setCell ⟨w.heap.size, 18, none⟩ (.slice qw (s.os.length + 1) dw)).heap.size = w7.heap.size := by simp [World.setCell]
              have M1 : Hid (OwnIB (w7.setCell ⟨w.heap.size, 18, none⟩ (.slice qw (s.os.length + 1) dw)) l1 h1 _ s.kn) := N1.out.same (Same.far (a := ⟨w.heap.size, 18, none⟩) (by simp only; omega) _)
              have M2 : Hid (OwnIB (w7.setCell ⟨w.heap.size, 18, none⟩ (.slice qw (s.os.length + 1) dw)) l2 h2 _ s.ws) := N2.out.same (Same.far (a := ⟨w.heap.size, 18, none⟩) (by simp only; omega) _)
              have M3 : Hid (OwnGB (w7.setCell ⟨w.heap.size, 18, none⟩ (.slice qw (s.os.length + 1) dw)) l3 h3 _ s.gs) := N3.out.same (Same.far (a := ⟨w.heap.size, 18, none⟩) (by simp only; omega) _)
              have M4 : Hid (OwnTB (w7.setCell ⟨w.heap.size, 18, none⟩ (.slice qw (s.os.length + 1) dw)) l4 h4b (.slice qw (s.os.length + 1) dw) (s.os ++ [b]) ∨ OwnTB (w7.setCell ⟨w.heap.size, 18, none⟩ (.slice qw (s.os.length + 1) dw)) (w5.heap.size + 1) w7.heap.size (.slice qw (s.os.length + 1) dw) (s.os ++ [b])) := hST.out.imp (fun h => h.same (Same.far (a := ⟨w.heap.size, 18, none⟩) (by simp only; omega) _)) (fun h => h.same (Same.far (a := ⟨w.heap.size, 18, none⟩) (by simp only; omega) _))
              generalize (w7.setCell ⟨w.heap.size, 18, none⟩ (.slice qw (s.os.length + 1) dw)) = w8 at hX8 hY8 hA8 hz8 M1 M2 M3 M4 ⊢
              go_wp2_with (first
                | (refine wpList_load_rowG (by rfl) 33 (.tmp 2) rfl w.heap.size rfl _ _ _ _ hX8.out Try.underlying33 rfl (by kernel_rfl) ?_)
                | (refine wpList_store_row rfl 36 (.tmp 4) (.tmp 33) rfl (w.heap.size + 1) #[.int .i64 s.ad, .int .i64 s.bo, .int .i64 s.st, .int .i64 s.s.g, .int .i64 s.s.o, .int .i64 s.s.b, .int .i64 s.s.h, .int .i64 s.t.g, .int .i64 s.t.o, .int .i64 s.t.b, .int .i64 s.t.h, .int .i64 s.qu, .int .i64 s.tr, .int .i64 s.he, .int .i64 s.po, .slice q1 s.kn.length d1, .slice q2 s.ws.length d2, .slice q3 s.gs.length d3, .slice qw (s.os.length + 1) dw, .slice none 0 0, .int .i64 0] rfl rfl _ _ hY8.out (by kernel_rfl) rfl (by simp [Value.oneCell']) ?_))
              go_wp2
              have hYf := setRow_heap _ (w.heap.size + 1) _ #[.int .i64 s.ad, .int .i64 s.bo, .int .i64 s.st, .int .i64 s.s.g, .int .i64 s.s.o, .int .i64 s.s.b, .int .i64 s.s.h, .int .i64 s.t.g, .int .i64 s.t.o, .int .i64 s.t.b, .int .i64 s.t.h, .int .i64 s.qu, .int .i64 s.tr, .int .i64 s.he, .int .i64 s.po, .slice q1 s.kn.length d1, .slice q2 s.ws.length d2, .slice q3 s.gs.length d3, .slice qw (s.os.length + 1) dw, .slice none 0 0, .int .i64 0] _ _ hY8.out
              have hAf : Below w.heap.size w _ := Below.setRow (hA8) (g := w.heap.size + 1) (by omega) #[.int .i64 s.ad, .int .i64 s.bo, .int .i64 s.st, .int .i64 s.s.g, .int .i64 s.s.o, .int .i64 s.s.b, .int .i64 s.s.h, .int .i64 s.t.g, .int .i64 s.t.o, .int .i64 s.t.b, .int .i64 s.t.h, .int .i64 s.qu, .int .i64 s.tr, .int .i64 s.he, .int .i64 s.po, .slice q1 s.kn.length d1, .slice q2 s.ws.length d2, .slice q3 s.gs.length d3, .slice qw (s.os.length + 1) dw, .slice none 0 0, .int .i64 0]
              rcases M4.out with hm4 | hm4
              · exact bodyPost_ret (v := .agg #[.int .i64 s.ad, .int .i64 s.bo, .int .i64 s.st, .int .i64 s.s.g, .int .i64 s.s.o, .int .i64 s.s.b, .int .i64 s.s.h, .int .i64 s.t.g, .int .i64 s.t.o, .int .i64 s.t.b, .int .i64 s.t.h, .int .i64 s.qu, .int .i64 s.tr, .int .i64 s.he, .int .i64 s.po, .slice q1 s.kn.length d1, .slice q2 s.ws.length d2, .slice q3 s.gs.length d3, .slice qw (s.os.length + 1) dw, .slice none 0 0, .int .i64 0]) (results_cell_row Try.results10 _ _ (w.heap.size + 1) _ _ _ _ rfl hYf Try.underlying36 rfl (by kernel_rfl)) rfl ⟨_, _, _, _, rfl, ⟨⟨l1, h1, l2, h2, l3, h3, l4, h4b, ⟨by omega, by omega, by omega, by omega⟩, by rw [setRow_size]; exact ⟨by omega, by omega, by omega, by omega⟩, M1.out.same (Same.setRow (by omega) _), M2.out.same (Same.setRow (by omega) _), M3.out.same (Same.setRow (by omega) _), hm4.same (Same.setRow (by omega) _), by omega, by omega, by omega, by omega, by omega, by omega⟩⟩, hAf⟩
              · exact bodyPost_ret (v := .agg #[.int .i64 s.ad, .int .i64 s.bo, .int .i64 s.st, .int .i64 s.s.g, .int .i64 s.s.o, .int .i64 s.s.b, .int .i64 s.s.h, .int .i64 s.t.g, .int .i64 s.t.o, .int .i64 s.t.b, .int .i64 s.t.h, .int .i64 s.qu, .int .i64 s.tr, .int .i64 s.he, .int .i64 s.po, .slice q1 s.kn.length d1, .slice q2 s.ws.length d2, .slice q3 s.gs.length d3, .slice qw (s.os.length + 1) dw, .slice none 0 0, .int .i64 0]) (results_cell_row Try.results10 _ _ (w.heap.size + 1) _ _ _ _ rfl hYf Try.underlying36 rfl (by kernel_rfl)) rfl ⟨_, _, _, _, rfl, ⟨⟨l1, h1, l2, h2, l3, h3, w5.heap.size + 1, w7.heap.size, ⟨by omega, by omega, by omega, by omega⟩, by rw [setRow_size]; exact ⟨by omega, by omega, by omega, by omega⟩, M1.out.same (Same.setRow (by omega) _), M2.out.same (Same.setRow (by omega) _), M3.out.same (Same.setRow (by omega) _), hm4.same (Same.setRow (by omega) _), by omega, by omega, by omega, by omega, by omega, by omega⟩⟩, hAf⟩
end Go.Proofs.Ytggdjiijcoklgaa
