/- THE WALK of the program's SayBytes. -/
import Derived.Test.YthmbfkppjijelaaSayR
import Derived.Test.YthmbfkppjijelaaStL
import Derived.Deep.RegionHeld3
namespace Go.Proofs.Ythmbfkppjijelaa
open Go.RowKit
set_option linter.unusedVariables false
set_option linter.unusedSimpArgs false

theorem slice4i (w : World) (g : Nat) : (Instr.sliceAt 53 (.pointer (some ⟨g, 0, none⟩)) none none none).run Try.prog w = .ok (.slice (some ⟨g, 0, none⟩) 4 4) w := by
  have e1 : Try.prog.arrayLen 53 = 4 := by kernel_rfl
  have e2 : Try.prog.elem 53 = 2 := by kernel_rfl
  have e0 : Try.prog.underlying 53 = some (.array 4 2) := by kernel_rfl
  have h := run_sliceAt_array_all (P := Try.prog) w 53 ⟨g, 0, none⟩ (by rw [e1, e2]; exact e0)
  rw [h, e1, e2]
  have e3 : (Go.sizeOf 2).run Try.prog w = .ok 1 w := by kernel_rfl
  rw [e3]
  simp [Result.andThen, slicedAt, Addr.add]
theorem row_block {w : World} {g : Nat} {zs : List Int} {t : TypeId} {fz : Nat × Nat} {n : Nat} (h : w.heap[g]? = some (.cells (zs.map (Value.int .i64)).toArray t fz)) (hn : n = zs.length) (c : Nat) : RowI w (.slice (some ⟨g, 0, none⟩) n c) zs := by
  subst hn
  refine ⟨_, c, rfl, fun k hk => ⟨g, rfl, (Array.getElem?_eq_some_iff.1 h).1, ?_⟩⟩
  simp [World.cell?, h, hk]
theorem join_five (a b c d e : ByteArray) (W : World) (ha : a.size ≤ 1000000) (hb : b.size ≤ 1000000) (hc : c.size ≤ 1000000) (hd : d.size ≤ 1000000) (he : e.size ≤ 1000000) :
    Calls Try.prog 30 #[.slice (some ⟨W.heap.size, 0, none⟩) 5 5] (W.alloc (.cells #[.string a, .string b, .string c, .string d, .string e] 9)) fun x w' => x = .returned (.string (joinT [a, b, c, d, e])) ∧ Below (W.alloc (.cells #[.string a, .string b, .string c, .string d, .string e] 9)).heap.size (W.alloc (.cells #[.string a, .string b, .string c, .string d, .string e] 9)) w' := by
  refine (join_row W.heap.size (0, 0) [a, b, c, d, e] _ (heap_alloc_new W _) (by simp) (by intro s hs; simp at hs; rcases hs with rfl | rfl | rfl | rfl | rfl <;> assumption)).mono ?_
  rintro x w' ⟨rfl, hb⟩
  exact ⟨rfl, hb⟩
theorem putT_small {b : ByteArray} (h : b.size ≤ 20) : (putT b).data.toList = numsL [(b.size : Int)] ++ b.data.toList := by
  unfold putT
  rw [if_neg (by omega), ByteArray.data_append, numsL_one]
  simp [putB_list]
theorem say_join {y : Sy} (h : y.right = true) : joinT [numsB [y.k, y.f, y.t], numsB [y.s.g, y.s.o, y.s.b, y.s.h], putB (y.ws.length : Int), numsB y.ws, putT y.b] = sayB y := by
  rw [sayB_right h]
  apply bytes_ext
  rw [joinT_data]
  simp only [List.flatMap_cons, List.flatMap_nil, putT_small (Sy.right_fits h).z, putB_list]
  simp [numsB, sayL, Sy.nums, numsL_cons, numsL_nil]
theorem numsB_size (l : List Int) (h : ∀ n ∈ l, (Lit.int .i64 n).wf = true) : (numsB l).size ≤ 10 * l.length := by
  have := numsL_len l h
  simpa [numsB, ByteArray.size] using this
set_option maxRecDepth 100000 in
set_option maxHeartbeats 1600000 in
theorem sayBytes_any (y : Sy) (p : Option Addr) (c : Nat) (w : World) (hz : y.b.size ≤ maxLen) (hl : y.ws.length ≤ 10000000) (hr : RowI w (.slice p y.ws.length c) y.ws) :
    Calls Try.prog 8 #[.agg #[.int .i64 y.k, .int .i64 y.f, .int .i64 y.t, .int .i64 y.s.g, .int .i64 y.s.o, .int .i64 y.s.b, .int .i64 y.s.h, .slice p y.ws.length c, .string y.b]] w fun e w' => e = .returned (.string (sayB y)) ∧ Below w.heap.size w w' := by
  have HROW : Hid (∀ W, Below w.heap.size w W → RowI W (.slice p y.ws.length c) y.ws) := fun W hW => hr.below hW
  have HSR : Hid (∀ W, Below w.heap.size w W → Calls Try.prog 13 #[.agg #[.int .i64 y.k, .int .i64 y.f, .int .i64 y.t, .int .i64 y.s.g, .int .i64 y.s.o, .int .i64 y.s.b, .int .i64 y.s.h, .slice p y.ws.length c, .string y.b]] W fun e w' => e = .returned (.bool y.right) ∧ Below W.heap.size W w') := fun W hW => sayRight_any y p c W hz hl (HROW.out W hW)
  clear hr
  cases hR : y.right with
  | false =>
    rw [sayB_not hR]
    rw [hR] at HSR
    go_enter Try.func8, Try.ntmps8
    go_wp2_with (go_at_call 13; refine (HSR.out _ (all_alloc _ _)).mono ?_; rintro e w1 ⟨rfl, hb1⟩)
    go_ret
    exact ⟨rfl, keepB (all_alloc _ _) (Nat.le_refl _) hb1⟩
  | true =>
    rw [hR] at HSR
    have hfit := Sy.right_fits hR
    obtain ⟨R, e1⟩ : ∃ R, Hid (sayB y = R) := ⟨_, show _ = _ from rfl⟩
    rw [e1.out]
    have HF : Hid (∀ W : World, Calls Try.prog 29 #[.agg #[.int .i64 y.s.g, .int .i64 y.s.o, .int .i64 y.s.b, .int .i64 y.s.h]] W fun e w' => e = .returned (.agg #[.int .i64 y.s.g, .int .i64 y.s.o, .int .i64 y.s.b, .int .i64 y.s.h]) ∧ Below W.heap.size W w') := fun W => fieldsOf_any y.s W
    go_enter Try.func8, Try.ntmps8
    go_upto_region 4 with (first
      | (go_at_call 13; refine (HSR.out _ (all_alloc _ _)).mono ?_; rintro e w1 ⟨rfl, hb1⟩; obtain ⟨hc1, hf1⟩ := bcellF hb1)
      | (go_at_call 29; refine (HF.out _).mono ?_; rintro e w2 ⟨rfl, hb2⟩; obtain ⟨hc2, hf2⟩ := bcellF hb2))
    have hw1 : w.heap.size < w1.heap.size := by have := hb1.size; simp at this; omega
    have hX : Hid _ := blk (blk (blk (heap_alloc_new w (.cells #[.int .i64 y.k, .int .i64 y.f, .int .i64 y.t, .int .i64 y.s.g, .int .i64 y.s.o, .int .i64 y.s.b, .int .i64 y.s.h, .slice p y.ws.length c, .string y.b] 27)) hb1) hb2) (all_alloc w2 (.cells #[.int .i64 y.s.g, .int .i64 y.s.o, .int .i64 y.s.b, .int .i64 y.s.h] 53))
    have hY : Hid _ := heap_alloc_new w2 (.cells #[.int .i64 y.s.g, .int .i64 y.s.o, .int .i64 y.s.b, .int .i64 y.s.h] 53)
    have hA0 := keepB (keepB (keepB (all_alloc w (.cells #[.int .i64 y.k, .int .i64 y.f, .int .i64 y.t, .int .i64 y.s.g, .int .i64 y.s.o, .int .i64 y.s.b, .int .i64 y.s.h, .slice p y.ws.length c, .string y.b] 27)) (Nat.le_refl _) hb1) (Nat.le_refl _) hb2) (Nat.le_refl _) (all_alloc w2 (.cells #[.int .i64 y.s.g, .int .i64 y.s.o, .int .i64 y.s.b, .int .i64 y.s.h] 53))
    generalize w2.alloc (.cells #[.int .i64 y.s.g, .int .i64 y.s.o, .int .i64 y.s.b, .int .i64 y.s.h] 53) = A at hX hY hA0 ⊢
    generalize w2.heap.size = X at hY ⊢
    generalize w.heap.size = G at hX ⊢
    clear hb1 hc1 hf1 hb2 hc2 hf2 hw1 HSR HF
    have x0 := cellW hX.out 0 _ rfl
    have x1 := cellW hX.out 1 _ rfl
    have x2 := cellW hX.out 2 _ rfl
    have x7 := cellW hX.out 7 _ rfl
    have x8 := cellW hX.out 8 _ rfl
    have hsl := fun wx => slice4i wx X
    have h4 := hfit.n
    have hbz := hfit.z
    have hwn : (Lit.int .i64 (y.ws.length : Int)).wf = true := wf_of (by omega) (by omega)
    have hw3 : ∀ n ∈ [y.k, y.f, y.t], (Lit.int .i64 n).wf = true := by intro n hn; exact hfit.wf n (by simp [Sy.nums] at hn ⊢; omega)
    have hw4 : ∀ n ∈ [y.s.g, y.s.o, y.s.b, y.s.h], (Lit.int .i64 n).wf = true := by intro n hn; exact hfit.wf n (by simp [Sy.nums] at hn ⊢; omega)
    have H1 : Hid (∀ (W : World) (g : Nat), W.heap[g]? = some (.cells #[.int .i64 y.k, .int .i64 y.f, .int .i64 y.t] 2 (0, 0)) → Calls Try.prog 31 #[.slice (some ⟨g, 0, none⟩) 3 3] W fun e w' => e = .returned (.string (numsB [y.k, y.f, y.t])) ∧ Below W.heap.size W w') := fun W g h => putNums_any _ [y.k, y.f, y.t] W (by simp) hw3 (row_block (n := 3) (zs := [y.k, y.f, y.t]) h (by rfl) 3)
    have H2 : Hid (∀ W, Below A.heap.size A W → Calls Try.prog 31 #[.slice (some ⟨X, 0, none⟩) 4 4] W fun e w' => e = .returned (.string (numsB [y.s.g, y.s.o, y.s.b, y.s.h])) ∧ Below W.heap.size W w') := fun W hW => putNums_any _ [y.s.g, y.s.o, y.s.b, y.s.h] W (by simp) hw4 (row_block (n := 4) (zs := [y.s.g, y.s.o, y.s.b, y.s.h]) (blk hY.out hW) (by rfl) 4)
    have H3 : Hid (∀ W : World, Calls Try.prog 32 #[.int .i64 (y.ws.length : Int)] W fun e w' => e = .returned (.string (putB (y.ws.length : Int))) ∧ Below W.heap.size W w') := fun W => putNum_any _ W hwn
    have H4 : Hid (∀ W, Below A.heap.size A W → Calls Try.prog 31 #[.slice p y.ws.length c] W fun e w' => e = .returned (.string (numsB y.ws)) ∧ Below W.heap.size W w') := fun W hW => putNums_any _ y.ws W (by omega) hfit.wfw (HROW.out W (keepB hA0 (Nat.le_refl _) hW))
    have H5 : Hid (∀ W : World, Calls Try.prog 33 #[.string y.b] W fun e w' => e = .returned (.string (putT y.b)) ∧ Below W.heap.size W w') := fun W => putText_any _ W (by unfold maxLen; omega)
    have z1 := numsB_size _ hw3
    have z2 := numsB_size _ hw4
    have z3 := putB_le10 hwn
    have z4 := numsB_size _ hfit.wfw
    have z5 : (putT y.b).size ≤ 100 := by
      unfold putT
      rw [if_neg (by omega), ByteArray.size_append]
      have := putB_le10 (n := (y.b.size : Int)) (wf_of (by omega) (by omega))
      omega
    have hj : Hid (joinT [numsB [y.k, y.f, y.t], numsB [y.s.g, y.s.o, y.s.b, y.s.h], putB (y.ws.length : Int), numsB y.ws, putT y.b] = R) := (say_join hR).trans e1.out
    simp only [List.length_cons, List.length_nil] at z1 z2
    generalize numsB [y.k, y.f, y.t] = t1 at H1 z1 hj
    generalize numsB [y.s.g, y.s.o, y.s.b, y.s.h] = t2 at H2 z2 hj
    generalize putB (y.ws.length : Int) = t3 at H3 z3 hj
    generalize numsB y.ws = t4 at H4 z4 hj
    generalize putT y.b = t5 at H5 z5 hj
    have H6 : Hid (∀ W : World, Calls Try.prog 30 #[.slice (some ⟨W.heap.size, 0, none⟩) 5 5] (W.alloc (.cells #[.string t1, .string t2, .string t3, .string t4, .string t5] 9)) fun x w' => x = .returned (.string R) ∧ Below (W.alloc (.cells #[.string t1, .string t2, .string t3, .string t4, .string t5] 9)).heap.size (W.alloc (.cells #[.string t1, .string t2, .string t3, .string t4, .string t5] 9)) w') := fun W => by
      have := join_five t1 t2 t3 t4 t5 W (by omega) (by omega) (by omega) (by omega) (by omega)
      rwa [hj.out] at this
    clear hfit hw3 hw4 hR z1 z2 z3 z4 z5 e1 HROW hwn hj
    go_region_held3 (fun w' => Below A.heap.size A w') (first | assumption | exact Below.drew (Below.refl _ _) | exact Below.drew (all_alloc A _) | exact keepB (by assumption) (Nat.le_refl _) hbq | exact Below.alloc (by assumption) (Below.size (by assumption)) _) (first
      | (go_at_call 30; refine (H6.out _).mono ?_; rintro e9 w9 ⟨rfl, hbq⟩)
      | (go_at_call 33; refine (H5.out _).mono ?_; rintro e9 w9 ⟨rfl, hbq⟩)
      | (have _ := P3; go_at_call 31; refine (H4.out _ (by assumption)).mono ?_; rintro e9 w9 ⟨rfl, hbq⟩)
      | (go_at_call 32; refine (H3.out _).mono ?_; rintro e9 w9 ⟨rfl, hbq⟩; have P3 : True := trivial)
      | (have _ := P1; go_at_call 31; refine (H2.out _ (by assumption)).mono ?_; rintro e9 w9 ⟨rfl, hbq⟩)
      | (go_at_call 31; refine (H1.out (World.drew (A.alloc (.cells #[.int .i64 y.k, .int .i64 y.f, .int .i64 y.t] 2))) A.heap.size (heap_alloc_new A (.cells #[.int .i64 y.k, .int .i64 y.f, .int .i64 y.t] 2))).mono ?_; rintro e9 w9 ⟨rfl, hbq⟩; have P1 : True := trivial))
    go_wp2
    go_ret
    exact ⟨rfl, keepB hA0 (Nat.le_refl _) (by assumption)⟩
end Go.Proofs.Ythmbfkppjijelaa
