/- THE DRAWS of bits, and of bytes to be read as bits. -/
import Derived.Test.YtfpibedloodjlaaDrawE
import Derived.Test.YtfpibedloodjlaaBitsR
import Derived.Test.YtfpibedloodjlaaIntsB
import Derived.Test.YtfpibedloodjlaaBox
import Derived.Deep.RegionHeld3
import Derived.Deep.RegionLaw
import Derived.Deep.RegionWith
import Derived.BigRegion
namespace Go.Proofs.Ytfpibedloodjlaa
open Go.RowKit
set_option linter.unusedVariables false
set_option linter.unusedSimpArgs false

theorem OwnI.onlyB {b : Nat} {w w' : World} {base : Nat} {v : Value} {zs : List Int} (h : OwnI w base v zs) (ho : Only b w w') (hb : b < base) : OwnI w' base v zs := by
  refine ⟨h.1, h.2.imp id ?_⟩
  rintro ⟨g, cap, cur, e1, e2, e3, e4⟩
  exact ⟨g, cap, cur, e1, e2, (ho.block g (by omega)).trans e3, e4⟩
theorem OwnI.lowB {w : World} {base B : Nat} {v : Value} {zs : List Int} (h : OwnI w base v zs) (hB : B ≤ base) : OwnI w B v zs := by
  refine ⟨h.1, h.2.imp id ?_⟩
  rintro ⟨g, cap, cur, e1, e2, e3⟩
  exact ⟨g, cap, cur, e1, Nat.le_trans hB e2, e3⟩
theorem Dr.blw {b B : Nat} {a : Option Addr} {len cap : Nat} {w0 w w' : World} (h : Dr b B a len cap w0 w) (hb0 : b < w0.heap.size) (hb : Below w0.heap.size w w') : Dr b B a len cap w0 w' :=
  ⟨h.src.of_block (hb.block b hb0), Rb_blw h.rb (hb.mono (by have := h.le; omega)), ⟨hb.os.trans h.grb.os, hb.tape.trans h.grb.tape, hb.output.trans h.grb.output, Nat.le_trans h.grb.size hb.size, fun i hi hib => (hb.block i hi).trans (h.grb.block i hi hib)⟩, Nat.lt_of_lt_of_le h.lt hb.size, h.le⟩
theorem Dr.row {b B : Nat} {a : Option Addr} {len cap : Nat} {w0 w w' : World} {v : Value} {zs : List Int} (h : Dr b B a len cap w0 w) (hb0 : b < w0.heap.size) (ho : OwnI w w0.heap.size v zs) (gr : w.grownBy w' v.ownBlock) : Dr b B a len cap w0 w' :=
  h.blw hb0 ((Below.refl _ _).grown gr h.size (fun j e => (World.ownsRow.lt ho j e).1))
set_option maxRecDepth 100000 in
set_option maxHeartbeats 1600000 in
theorem drawBitsText_any (B : Nat) (a : Option Addr) (len cap : Nat) (w : World) (hr : Rb B w a len) (hB : B ≤ w.heap.size) :
    Calls Try.prog 12 #[.slice a len cap] w fun e w' => ∃ (v : Value) (zs : List Int), e = .returned v ∧ OwnI w' w.heap.size v zs ∧ zs.length ≤ 100 ∧ Below w.heap.size w w' := by
  obtain ⟨i0, hi, hz0, hz1, hz2⟩ := info_parts info64
  go_enter Try.func12, Try.ntmps12
  go_wp2_with (first
    | (go_at_call 32; refine (source_D B a len cap _ hr hB).mono ?_; rintro e w1 ⟨rfl, hD1, hb1⟩; have HD1 : Hid _ := hD1.alloc (.cells #[] 2))
    | (go_at_call 39; refine (n_D HD1.out 20 (by omega)).mono ?_; rintro e w2 ⟨r2, rfl, hr2, hD2, ho2⟩; have hs2 : r2 ≤ 20 := (by omega)))
  have hbw : w.heap.size < w1.heap.size := hD1.lt
  have hO2 : OwnI w2 w1.heap.size (.slice (some ⟨w1.heap.size, 0, none⟩) 0 0) [] := (own_madeI w1 _ (Nat.le_refl _)).onlyB ho2 hbw
  have HB1 : Hid _ := hb1
  clear hD1 hb1 HD1 hr ho2 hr2
  go_loopw [4, 5] (fun v i wr => ∃ (r : Nat) (zs : List Int), i = .int .i64 r ∧ zs.length + r ≤ 20 ∧ Hid (OwnI wr w1.heap.size v zs) ∧ Hid (Dr w.heap.size B a len cap w1 wr)) (fun _ i _ => (intOf i).toNat)
  case atStart => exact ⟨r2, [], rfl, by simpa using hs2, hO2, hD2⟩
  case round =>
    obtain ⟨r, zs, rfl, hzr, HO, HD⟩ := hrel
    obtain ⟨p, c, rfl⟩ := HO.out.shape
    clear hO2 hD2 hs2
    by_cases hlt : 0 < r
    · have hr0 : (0 : Int) < (r : Int) := by omega
      go_wp2_with (first
        | (go_at_call 39; refine (n_D HD.out 2 (by omega)).mono ?_; rintro e w3 ⟨r3, rfl, hr3, hD3, ho3⟩; have hO3 := HO.out.onlyB ho3 hbw; have hz3 := hD3.size)
        | (at_builtin; refine wpList_append_own _ rfl (.tmp 15) (.tmp 18) 23 rfl w1.heap.size 2 i0 (.int .i64 0) 1 8 Try.underlying23 hi hz0 hz1 hz2 rfl (by decide) _ _ _ rfl (World.ownsRow.alloc hO3 _) ⟨w3.heap.size, 0, none⟩ 1 1 [_] rfl rfl (cells_newG _ _ _ _ rfl) (by intro x hx; simp at hx; subst hx; rfl) (by unfold maxLen; omega) (by omega) (by simp; omega) ?_; intro v' w4 hown' hgrow _))
      go_roundw
      case rel =>
        have hOA : OwnI (w3.alloc (.cells #[.int .i64 (r3 : Int)] 2)) w1.heap.size (.slice p zs.length c) zs := hO3.below (all_alloc _ _)
        exact ⟨r - 1, zs ++ [(r3 : Int)], by rw [show ((r - 1 : Nat) : Int) = (r : Int) - 1 by omega], by rw [List.length_append]; simp; omega, OwnI.of hown' (by rw [List.length_append]; rfl) (by rw [List.map_append]; rfl), (hD3.alloc _).row hbw hOA hgrow⟩
      case measure => simp [intOf]; omega
    · obtain rfl : r = 0 := by omega
      have hzl : zs.length ≤ 20 := by omega
      go_wp2_with (first
        | (have _ := D9; go_at_call 39; refine (n_D D9 2 (by omega)).mono ?_; rintro e w10 ⟨r10, rfl, hr10, D10, _⟩; have hs10 : r10 ≤ 2 := (by omega); have hz10 := D10.size)
        | (at_make; refine wpList_make_full _ rfl (.tmp 29) (.tmp 29) 23 rfl w1.heap.size 2 i0 (.int .i64 0) 1 Try.underlying23 hi hz0 hz1 .i64 .i64 _ _ (64 + r10) rfl rfl (by omega) (by omega) (by rw [hz2]; omega) (by unfold maxLen; omega) hz10 ?_; intro w11 hown11 hgrow11; rw [zeros_list] at hown11; have O11 : OwnI w11 w1.heap.size (.slice (some ⟨w10.heap.size, 0, none⟩) (64 + r10) (64 + r10)) (List.replicate (64 + r10) 0) := (by unfold OwnI; rw [List.length_replicate]; exact hown11); have D11 := D10.blw hbw ((Below.refl w1.heap.size w10).grown hgrow11 hz10 (fun k e => by cases e)))
        | (have _ := D8; go_at_call 42; refine (one_D D8 25 (by omega)).mono ?_; rintro e w9 ⟨q9, rfl, D9, ho9⟩; have O9 := O8.onlyB ho9 hbw)
        | (have _ := D5; go_at_call 42; refine (one_D D5 25 (by omega)).mono ?_; rintro e w9 ⟨q9, rfl, D9, ho9⟩; have O9 := O5.onlyB ho9 hbw)
        | (go_at_call 42; refine (one_D HD.out 15 (by omega)).mono ?_; rintro e w5 ⟨q5, rfl, D5, ho5⟩; have O5 := HO.out.onlyB ho5 hbw; have hz5 := D5.size)
        | (at_builtin; refine wpList_append_own _ rfl (.tmp 22) (.tmp 23) 23 rfl w1.heap.size 2 i0 (.int .i64 0) 1 8 Try.underlying23 hi hz0 hz1 hz2 rfl (by decide) _ _ _ rfl (World.ownsRow.alloc O5 _) ⟨w5.heap.size, 0, none⟩ 1 1 [_] rfl rfl (cells_newG _ _ _ _ rfl) (by intro x hx; simp at hx; subst hx; rfl) (by unfold maxLen; omega) (by omega) (by simp; omega) ?_; intro v8 w8 hown8 hg8 _; have O8 : OwnI w8 w1.heap.size v8 (zs ++ [2]) := OwnI.of hown8 (by rw [List.length_append]; rfl) (by rw [List.map_append]; rfl); have D8 := (D5.alloc (.cells #[.int .i64 2] 2)).row hbw (O5.below (all_alloc w5 (.cells #[.int .i64 2] 2))) hg8))
      all_goals
        go_ret
        first
          | exact ⟨_, _, rfl, O11.lowB (by omega), by rw [List.length_replicate]; omega, D11.end HB1.out⟩
          | exact ⟨_, _, rfl, O9.lowB (by omega), by first | omega | (rw [List.length_append]; simp; omega), D9.end HB1.out⟩
def tab4 : List Int := [0, 64, 65, -1]
theorem tab4_range (r : Nat) : -1 ≤ tab4.getD r 0 ∧ tab4.getD r 0 ≤ 65 := by
  match r with
  | 0 => decide
  | 1 => decide
  | 2 => decide
  | 3 => decide
  | n + 4 => simp [tab4]
theorem tab4_cell (r : Nat) (h : r < 4) (W : World) : (W.alloc (.cells #[.int .i64 0, .int .i64 64, .int .i64 65, .int .i64 (-1)] 2)).cell? ⟨W.heap.size, r, none⟩ = some (.int .i64 (tab4.getD r 0)) := by
  have hn := heap_alloc_new W (.cells #[.int .i64 0, .int .i64 64, .int .i64 65, .int .i64 (-1)] 2)
  simp only [World.cell?, hn]
  match r, h with
  | 0, _ => rfl
  | 1, _ => rfl
  | 2, _ => rfl
  | 3, _ => rfl
set_option maxRecDepth 100000 in
set_option maxHeartbeats 1600000 in
theorem drawBitsRead_any (B : Nat) (a : Option Addr) (len cap : Nat) (w : World) (hr : Rb B w a len) (hB : B ≤ w.heap.size) :
    Calls Try.prog 14 #[.slice a len cap] w fun e w' => ∃ (s : ByteArray) (m : Int), e = .returned (.tuple #[.string s, .int .i64 m]) ∧ s.size ≤ 100 ∧ (-1 ≤ m ∧ m ≤ 65) ∧ Below w.heap.size w w' := by
  go_enter Try.func14, Try.ntmps14
  go_upto_region 5 with (first
    | (go_at_call 32; refine (source_D B a len cap _ hr hB).mono ?_; rintro e w1 ⟨rfl, hD1, hb1⟩)
    | (go_at_call 39; refine (n_D hD1 20 (by omega)).mono ?_; rintro e w2 ⟨r2, rfl, hr2, hD2, _⟩; have hs2 : r2 ≤ 20 := (by omega); have hq2 : ((r2 : Int) + 7).tdiv 8 = (((r2 + 7) / 8 : Nat) : Int) := (by rw [Int.tdiv_eq_ediv_of_nonneg (by omega)]; omega))
    | (go_at_call 45; refine (bytes_D' hD2 ((r2 + 7) / 8) _ (by omega) (by omega)).mono ?_; rintro e w3 ⟨s3, rfl, hs3, hD3, _⟩))
  refine (one_D hD3 6 (by omega)).mono ?_
  rintro e w4 ⟨q4, rfl, hD4, _⟩
  dsimp only
  have hz3 : s3.size ≤ 100 := by omega
  have HB1 : Hid _ := hb1
  clear hD1 hD2 hD3 hr hb1 hs3 hr2 hq2
  cases q4 with
  | false =>
    go_wp2
    go_ret2
    exact ⟨s3, r2, rfl, hz3, by omega, hD4.end HB1.out⟩
  | true =>
    go_upto_region 5 with fail
    have hbw : w.heap.size < w4.heap.size := hD4.lt
    have HDa : Hid _ := hD4.below (Below.drew (all_alloc w4 (.cells #[.int .i64 0, .int .i64 64, .int .i64 65, .int .i64 (-1)] 2)))
    have HDb : Hid _ := hD4.below (Below.drew (Below.refl w4.heap.size w4))
    go_region_law (go_simp; go_at_call 39; first
      | (have key := n_D HDa.out 4 (by omega); refine key.mono ?_; clear key; rintro e w5 ⟨r5, rfl, hr5, hD5, ho5⟩; have hs5 : r5 < 4 := (by omega); have k3 : w5.cell? ⟨w4.heap.size, r5, none⟩ = some (.int .i64 (tab4.getD r5 0)) := (by rw [ho5.cellO (by omega)]; exact tab4_cell r5 hs5 w4); have hd5 := tab4_range r5; have hi5 : (r5 : Int) < 4 := (by omega); have hi0 : (0 : Int) ≤ (r5 : Int) := (by omega))
      | (have key := n_D HDb.out 4 (by omega); refine key.mono ?_; clear key; rintro e w5 ⟨r5, rfl, hr5, hD5, ho5⟩; have hs5 : r5 < 4 := (by omega); have k3 : (w5.alloc (.cells #[.int .i64 0, .int .i64 64, .int .i64 65, .int .i64 (-1)] 2)).cell? ⟨w5.heap.size, r5, none⟩ = some (.int .i64 (tab4.getD r5 0)) := tab4_cell r5 hs5 w5; have hd5 := tab4_range r5; have hi5 : (r5 : Int) < 4 := (by omega); have hi0 : (0 : Int) ≤ (r5 : Int) := (by omega)))
    all_goals
      go_wp2
      go_ret2
      first
        | exact ⟨s3, _, rfl, hz3, hd5, hD5.end HB1.out⟩
        | exact ⟨s3, _, rfl, hz3, hd5, (hD5.alloc _).end HB1.out⟩
end Go.Proofs.Ytfpibedloodjlaa
