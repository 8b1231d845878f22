/- THE WALK of the model's SayBytes. -/
import Derived.Test.YthmbfkppjijelaaSayS
import Derived.Test.YthmbfkppjijelaaSayB
import Derived.Deep.RegionHeld3
namespace Go.Proofs.Ythmbfkppjijelaa
open Go.RowKit
set_option linter.unusedVariables false
set_option linter.unusedSimpArgs false

set_option maxRecDepth 100000 in
set_option maxHeartbeats 3200000 in
theorem l03Bytes_any (y : Sy) (p : Option Addr) (c : Nat) (w : World) (hR : y.right = true) (hr : RowI w (.slice p y.ws.length c) y.ws) :
    Calls Try.prog 39 #[.agg #[.int .i64 y.k, .int .i64 y.f, .int .i64 y.t, .int .i64 y.s.g, .int .i64 y.s.o, .int .i64 y.s.b, .int .i64 y.s.h, .slice p y.ws.length c, .string y.b]] w fun e w' => e = .returned (.string (sayB y)) ∧ Below w.heap.size w w' := by
  have HROW : Hid (∀ W, Below w.heap.size w W → RowI W (.slice p y.ws.length c) y.ws) := fun W hW => hr.below hW
  clear hr
  have hfit := Sy.right_fits hR
  obtain ⟨R, e1⟩ : ∃ R, Hid (sayB y = R) := ⟨_, show _ = _ from rfl⟩
  rw [e1.out]
  have hRL : Hid (R.data.toList = numsL y.nums ++ (numsL y.ws ++ (numsL [(y.b.size : Int)] ++ y.b.data.toList))) := show _ = _ by rw [← e1.out, sayB_right hR]; simp [sayL]
  have h4 := hfit.n
  have hbz := hfit.z
  have w0 : (Lit.int .i64 y.k).wf = true := hfit.wf _ (by simp [Sy.nums])
  have w1 : (Lit.int .i64 y.f).wf = true := hfit.wf _ (by simp [Sy.nums])
  have w2 : (Lit.int .i64 y.t).wf = true := hfit.wf _ (by simp [Sy.nums])
  have w3 : (Lit.int .i64 y.s.g).wf = true := hfit.wf _ (by simp [Sy.nums])
  have w4 : (Lit.int .i64 y.s.o).wf = true := hfit.wf _ (by simp [Sy.nums])
  have w5 : (Lit.int .i64 y.s.b).wf = true := hfit.wf _ (by simp [Sy.nums])
  have w6 : (Lit.int .i64 y.s.h).wf = true := hfit.wf _ (by simp [Sy.nums])
  have w7 : (Lit.int .i64 (y.ws.length : Int)).wf = true := hfit.wf _ (by simp [Sy.nums])
  have HWW : Hid (∀ n ∈ y.ws, (Lit.int .i64 n).wf = true) := hfit.wfw
  have H5 : Hid (∀ W : World, Calls Try.prog 68 #[.string y.b] W fun e w' => e = .returned (.string (putT y.b)) ∧ Below W.heap.size W w') := fun W => specPutText_any _ W (by unfold maxLen; omega)
  have H5d : Hid ((putT y.b).data.toList = numsL [(y.b.size : Int)] ++ y.b.data.toList) := putT_small hbz
  have z9 : (putT y.b).size ≤ 100 := by
    unfold putT
    rw [if_neg (by omega), ByteArray.size_append]
    have := putB_le10 (n := (y.b.size : Int)) (wf_of (by omega) (by omega))
    omega
  generalize putT y.b = t9 at H5 H5d z9
  obtain ⟨pB, hpB⟩ : ∃ pB : Int → ByteArray, Hid (∀ n, putB n = pB n) := ⟨putB, fun _ => rfl⟩
  have HP : Hid (∀ n, (Lit.int .i64 n).wf = true → ∀ W : World, Calls Try.prog 67 #[.int .i64 n] W fun e w' => e = .returned (.string (pB n)) ∧ Below W.heap.size W w') := fun n hn W => by rw [← hpB.out]; exact specPutNum_any n W hn
  have HZ : Hid (∀ n, (Lit.int .i64 n).wf = true → (pB n).size ≤ 10) := fun n hn => by rw [← hpB.out]; exact putB_le10 hn
  have HD : Hid (∀ n, (pB n).data.toList = numsL [n]) := fun n => by rw [← hpB.out, putB_list, numsL_one]
  have z0 := HZ.out _ w0
  have z1 := HZ.out _ w1
  have z2 := HZ.out _ w2
  have z3 := HZ.out _ w3
  have z4 := HZ.out _ w4
  have z5 := HZ.out _ w5
  have z6 := HZ.out _ w6
  have z7 := HZ.out _ w7
  have HT0 : Hid ((pB y.k ++ pB y.f ++ pB y.t ++ pB y.s.g ++ pB y.s.o ++ pB y.s.b ++ pB y.s.h ++ pB (y.ws.length : Int)).data.toList = numsL y.nums) := show _ = _ by
    simp only [ByteArray.data_append, Array.toList_append, HD.out, Sy.nums, numsL_cons, numsL_nil, List.append_nil, List.append_assoc]
  clear hfit hpB e1
  go_enter Try.func39, Try.ntmps39
  go_upto_region 1 with fail
  have hX : Hid _ := heap_alloc_new w (.cells #[.int .i64 y.k, .int .i64 y.f, .int .i64 y.t, .int .i64 y.s.g, .int .i64 y.s.o, .int .i64 y.s.b, .int .i64 y.s.h, .slice p y.ws.length c, .string y.b] 27)
  have hA0 := all_alloc w (.cells #[.int .i64 y.k, .int .i64 y.f, .int .i64 y.t, .int .i64 y.s.g, .int .i64 y.s.o, .int .i64 y.s.b, .int .i64 y.s.h, .slice p y.ws.length c, .string y.b] 27)
  generalize w.alloc (.cells #[.int .i64 y.k, .int .i64 y.f, .int .i64 y.t, .int .i64 y.s.g, .int .i64 y.s.o, .int .i64 y.s.b, .int .i64 y.s.h, .slice p y.ws.length c, .string y.b] 27) = A at hX hA0 ⊢
  generalize w.heap.size = G at hX ⊢
  go_cut [3] (fun s3 wx => ∃ t0 : ByteArray, s3 = .string t0 ∧ Hid (t0.data.toList = numsL y.nums) ∧ t0.size ≤ 80 ∧ Below A.heap.size A wx)
  case first =>
    have x0 := cellW hX.out 0 _ rfl
    have x1 := cellW hX.out 1 _ rfl
    have x2 := cellW hX.out 2 _ rfl
    have x3 := cellW hX.out 3 _ rfl
    have x4 := cellW hX.out 4 _ rfl
    have x5 := cellW hX.out 5 _ rfl
    have x6 := cellW hX.out 6 _ rfl
    have x7 := cellW hX.out 7 _ rfl
    have d1 : ¬ 9223372036854775807 < (pB y.k).size + (pB y.f).size := by omega
    have d2 : ¬ 9223372036854775807 < (pB y.k).size + (pB y.f).size + (pB y.t).size := by omega
    have e2 : ¬ 9223372036854775807 < (pB y.k ++ pB y.f).size + (pB y.t).size := by simp only [ByteArray.size_append]; omega
    have d3 : ¬ 9223372036854775807 < (pB y.k).size + (pB y.f).size + (pB y.t).size + (pB y.s.g).size := by omega
    have e3 : ¬ 9223372036854775807 < (pB y.k ++ pB y.f ++ pB y.t).size + (pB y.s.g).size := by simp only [ByteArray.size_append]; omega
    have d4 : ¬ 9223372036854775807 < (pB y.k).size + (pB y.f).size + (pB y.t).size + (pB y.s.g).size + (pB y.s.o).size := by omega
    have e4 : ¬ 9223372036854775807 < (pB y.k ++ pB y.f ++ pB y.t ++ pB y.s.g).size + (pB y.s.o).size := by simp only [ByteArray.size_append]; omega
    have d5 : ¬ 9223372036854775807 < (pB y.k).size + (pB y.f).size + (pB y.t).size + (pB y.s.g).size + (pB y.s.o).size + (pB y.s.b).size := by omega
    have e5 : ¬ 9223372036854775807 < (pB y.k ++ pB y.f ++ pB y.t ++ pB y.s.g ++ pB y.s.o).size + (pB y.s.b).size := by simp only [ByteArray.size_append]; omega
    have d6 : ¬ 9223372036854775807 < (pB y.k).size + (pB y.f).size + (pB y.t).size + (pB y.s.g).size + (pB y.s.o).size + (pB y.s.b).size + (pB y.s.h).size := by omega
    have e6 : ¬ 9223372036854775807 < (pB y.k ++ pB y.f ++ pB y.t ++ pB y.s.g ++ pB y.s.o ++ pB y.s.b).size + (pB y.s.h).size := by simp only [ByteArray.size_append]; omega
    have d7 : ¬ 9223372036854775807 < (pB y.k).size + (pB y.f).size + (pB y.t).size + (pB y.s.g).size + (pB y.s.o).size + (pB y.s.b).size + (pB y.s.h).size + (pB (y.ws.length : Int)).size := by omega
    have e7 : ¬ 9223372036854775807 < (pB y.k ++ pB y.f ++ pB y.t ++ pB y.s.g ++ pB y.s.o ++ pB y.s.b ++ pB y.s.h).size + (pB (y.ws.length : Int)).size := by simp only [ByteArray.size_append]; omega
    go_region_held3 (fun w' => Below A.heap.size A w') (first | assumption | exact Below.drew (Below.refl _ _) | exact keepB (by assumption) (Nat.le_refl _) hbq) (first
      | (go_at_call 67; refine (HP.out _ (by assumption) _).mono ?_; rintro e9 w9 ⟨rfl, hbq⟩))
    go_wp2
    go_meet
    exact ⟨_, rfl, HT0.out, by simp only [ByteArray.size_append]; omega, by assumption⟩
  case rest =>
    clear w0 w1 w2 w3 w4 w5 w6 w7 z0 z1 z2 z3 z4 z5 z6 z7 HT0
    obtain ⟨t0, rfl, HT0, hz0, hzz⟩ := hcut
    rename World => z
    have X7 : Hid _ := cellW hX.out 7 _ rfl
    have X8 : Hid _ := cellW hX.out 8 _ rfl
    go_upto_region 3 with fail
    go_loopw [3, 4] (fun t i wr => ∃ (k : Nat) (tt : ByteArray), k ≤ y.ws.length ∧ i = .int .i64 k ∧ t = .string tt ∧ Hid (tt.data.toList = numsL y.nums ++ numsL (y.ws.take k)) ∧ tt.size ≤ 80 + 10 * k ∧ Below A.heap.size A wr) (fun _ i _ => y.ws.length - (intOf i).toNat)
    case atStart => exact ⟨0, t0, Nat.zero_le _, rfl, rfl, (show _ = _ by rw [HT0.out, List.take_zero, numsL_nil, List.append_nil]), by omega, hzz⟩
    case round =>
      obtain ⟨k, tt, hk, rfl, rfl, HTT, htz, hbel⟩ := hrel
      have x7 := X7.out wr hbel
      have x8 := X8.out wr hbel
      by_cases hlt : k < y.ws.length
      · obtain ⟨p', c', e', hrow⟩ := HROW.out wr (keepB hA0 (Nat.le_refl _) hbel)
        cases e'
        obtain ⟨g, rfl, _, q1⟩ := hrow k hlt
        have hwz := HWW.out y.ws[k] (List.getElem_mem _)
        have hsz := HZ.out _ hwz
        have HN : Hid ((tt ++ pB y.ws[k]).data.toList = numsL y.nums ++ numsL (y.ws.take (k + 1))) := show _ = _ by
          rw [ByteArray.data_append, Array.toList_append, HTT.out, HD.out, List.take_succ_eq_append_getElem hlt, numsL_append, List.append_assoc]
        generalize y.ws[k] = zk at q1 hwz hsz HN
        have dd : ¬ 9223372036854775807 < tt.size + (pB zk).size := by omega
        go_wp2_with (go_at_call 67; refine (HP.out _ hwz _).mono ?_; rintro e9 w9 ⟨rfl, hbq⟩)
        go_roundw
        case rel => exact ⟨k + 1, tt ++ pB zk, by omega, by go_num, rfl, HN.out, by rw [ByteArray.size_append]; omega, keepB hbel (Nat.le_refl _) hbq⟩
        case measure => simp [intOf]; omega
      · have ek : y.ws.take k = y.ws := List.take_of_length_le (by omega)
        have dd : ¬ 9223372036854775807 < tt.size + t9.size := by omega
        go_wp2_with (go_at_call 68; refine (H5.out _).mono ?_; rintro e9 w9 ⟨rfl, hbq⟩)
        go_ret
        have hfin : tt ++ t9 = R := bytes_ext (by rw [ByteArray.data_append, Array.toList_append, HTT.out, H5d.out, hRL.out, ek, List.append_assoc])
        exact ⟨congrArg (fun s => Ending.returned (Value.string s)) hfin, keepB hA0 (Nat.le_refl _) (keepB hbel (Nat.le_refl _) hbq)⟩
set_option maxRecDepth 100000 in
set_option maxHeartbeats 1600000 in
theorem specSayBytes_any (y : Sy) (p : Option Addr) (c : Nat) (w : World) (hz : y.b.size ≤ maxLen) (hl : y.ws.length ≤ 10000000) (hr : RowI w (.slice p y.ws.length c) y.ws) :
    Calls Try.prog 12 #[.agg #[.int .i64 y.k, .int .i64 y.f, .int .i64 y.t, .int .i64 y.s.g, .int .i64 y.s.o, .int .i64 y.s.b, .int .i64 y.s.h, .slice p y.ws.length c, .string y.b]] w fun e w' => e = .returned (.string (sayB y)) ∧ Below w.heap.size w w' := by
  have HROW : Hid (∀ W, Below w.heap.size w W → RowI W (.slice p y.ws.length c) y.ws) := fun W hW => hr.below hW
  have HSR : Hid (∀ W, Below w.heap.size w W → Calls Try.prog 14 #[.agg #[.int .i64 y.k, .int .i64 y.f, .int .i64 y.t, .int .i64 y.s.g, .int .i64 y.s.o, .int .i64 y.s.b, .int .i64 y.s.h, .slice p y.ws.length c, .string y.b]] W fun e w' => e = .returned (.bool y.right) ∧ Below W.heap.size W w') := fun W hW => specSayRight_any y p c W hz hl (HROW.out W hW)
  clear hr
  cases hR : y.right with
  | false =>
    rw [sayB_not hR]
    rw [hR] at HSR
    go_enter Try.func12, Try.ntmps12
    go_wp2_with (go_at_call 14; refine (HSR.out _ (all_alloc _ _)).mono ?_; rintro e w1 ⟨rfl, hb1⟩)
    go_ret
    exact ⟨rfl, keepB (all_alloc _ _) (Nat.le_refl _) hb1⟩
  | true =>
    rw [hR] at HSR
    have HL : Hid (∀ W, Below w.heap.size w W → Calls Try.prog 39 #[.agg #[.int .i64 y.k, .int .i64 y.f, .int .i64 y.t, .int .i64 y.s.g, .int .i64 y.s.o, .int .i64 y.s.b, .int .i64 y.s.h, .slice p y.ws.length c, .string y.b]] W fun e w' => e = .returned (.string (sayB y)) ∧ Below W.heap.size W w') := fun W hW => l03Bytes_any y p c W hR (HROW.out W hW)
    generalize sayB y = R at HL ⊢
    go_enter Try.func12, Try.ntmps12
    go_wp2_with (first
      | (go_at_call 14; refine (HSR.out _ (all_alloc _ _)).mono ?_; rintro e w1 ⟨rfl, hb1⟩; obtain ⟨hc1, hf1⟩ := bcellF hb1; have hB1 := keepB (all_alloc w (.cells #[.int .i64 y.k, .int .i64 y.f, .int .i64 y.t, .int .i64 y.s.g, .int .i64 y.s.o, .int .i64 y.s.b, .int .i64 y.s.h, .slice p y.ws.length c, .string y.b] 27)) (Nat.le_refl _) hb1)
      | (go_at_call 39; refine (HL.out _ hB1).mono ?_; rintro e w2 ⟨rfl, hb2⟩))
    go_ret
    exact ⟨rfl, keepB hB1 (Nat.le_refl _) hb2⟩
end Go.Proofs.Ythmbfkppjijelaa
