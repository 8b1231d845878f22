/- THE WALK of the model's SayRead. -/
import Derived.Test.YthmbfkppjijelaaSayRT
import Derived.Deep.RegionLaw
import Derived.Deep.DeepCutAuto
namespace Go.Proofs.Ythmbfkppjijelaa
open Go.RowKit
set_option linter.unusedVariables false
set_option linter.unusedSimpArgs false

theorem rs_start {w w1 : World} {s : ByteArray} {a : Int} {b : Bool} (hW : Hid (((w.alloc (.cells #[.int .i64 0, .int .i64 0, .int .i64 0, .int .i64 0, .int .i64 0, .int .i64 0, .int .i64 0, .slice none 0 0, .string ⟨#[]⟩, .int .i64 0] 32)).alloc (.cells #[.string s, .int .i64 0, .bool false] 69)).heap[w.heap.size]? = some (.cells #[.int .i64 0, .int .i64 0, .int .i64 0, .int .i64 0, .int .i64 0, .int .i64 0, .int .i64 0, .slice none 0 0, .string ⟨#[]⟩, .int .i64 0] 32))) (hG : w1.heap[w.heap.size + 1]? = some (.cells #[.string s, .int .i64 a, .bool b] 69 (0, 0))) (gr : ((w.alloc (.cells #[.int .i64 0, .int .i64 0, .int .i64 0, .int .i64 0, .int .i64 0, .int .i64 0, .int .i64 0, .slice none 0 0, .string ⟨#[]⟩, .int .i64 0] 32)).alloc (.cells #[.string s, .int .i64 0, .bool false] 69)).grownBy w1 (some (w.heap.size + 1))) (n1 : Int) :
    RS w s (w.heap.size + 1) w1.heap.size #[.int .i64 n1, .int .i64 0, .int .i64 0, .int .i64 0, .int .i64 0, .int .i64 0, .int .i64 0, .slice none 0 0, .string ⟨#[]⟩] a b (w1.alloc (.cells #[.int .i64 n1, .int .i64 0, .int .i64 0, .int .i64 0, .int .i64 0, .int .i64 0, .int .i64 0, .slice none 0 0, .string ⟨#[]⟩] 27)) := by
  have hl := (Array.getElem?_eq_some_iff.1 hG).1
  have hb : Below w.heap.size w ((w.alloc (.cells #[.int .i64 0, .int .i64 0, .int .i64 0, .int .i64 0, .int .i64 0, .int .i64 0, .int .i64 0, .slice none 0 0, .string ⟨#[]⟩, .int .i64 0] 32)).alloc (.cells #[.string s, .int .i64 0, .bool false] 69)) := keepB (all_alloc _ _) (Nat.le_refl _) (all_alloc _ _)
  have hb1 : Below w.heap.size w w1 := hb.grown gr hb.size (fun j e => by cases e; omega)
  refine ⟨blk hG (all_alloc _ _), heap_alloc_new _ _, blk ((gr.block _ (Array.getElem?_eq_some_iff.1 hW.out).1 (by intro e; have := Option.some.inj e; omega)).trans hW.out) (all_alloc _ _), keepB hb1 (Nat.le_refl _) (all_alloc _ _), by omega, by omega, by omega⟩
set_option maxRecDepth 100000 in
set_option maxHeartbeats 3200000 in
theorem specSayRead_any (s : ByteArray) (w : World) (hz : s.size ≤ maxLen) :
    Calls Try.prog 15 #[.string s] w fun e w' => ∃ v, e = .returned (.agg #[.int .i64 (sayRes s).1.k, .int .i64 (sayRes s).1.f, .int .i64 (sayRes s).1.t, .int .i64 (sayRes s).1.s.g, .int .i64 (sayRes s).1.s.o, .int .i64 (sayRes s).1.s.b, .int .i64 (sayRes s).1.s.h, v, .string (sayRes s).1.b, .int .i64 (sayRes s).2]) ∧ OwnI w' w.heap.size v (sayRes s).1.ws ∧ Below w.heap.size w w' := by
  unfold maxLen at hz
  by_cases h8 : 8000 < s.size
  · have e : sayRes s = (zeroSy, 2) := by unfold sayRes; rw [if_pos h8]
    rw [e]
    unfold zeroSy
    simp only
    go_enter Try.func15, Try.ntmps15
    go_wp2
    exact bodyPost_ret (v := .agg #[.int .i64 0, .int .i64 0, .int .i64 0, .int .i64 0, .int .i64 0, .int .i64 0, .int .i64 0, .slice none 0 0, .string ⟨#[]⟩, .int .i64 2]) (by simp [results, Try.results15, go_sem]) rfl ⟨.slice none 0 0, rfl, OwnI.nil _ _, by
      repeat (first | exact Below.refl _ _ | refine Below.setCell ?_ (by simp <;> omega) _ | refine Below.alloc ?_ (by simp <;> omega) _)⟩
  have hs : s.size ≤ 8000 := by omega
  obtain ⟨X, hX⟩ : ∃ X, Hid (sayRes s = X) := ⟨_, show _ = _ from rfl⟩
  rw [hX.out]
  have hW0 : Hid (((w.alloc (.cells #[.int .i64 0, .int .i64 0, .int .i64 0, .int .i64 0, .int .i64 0, .int .i64 0, .int .i64 0, .slice none 0 0, .string ⟨#[]⟩, .int .i64 0] 32)).alloc (.cells #[.string s, .int .i64 0, .bool false] 69)).heap[w.heap.size]? = some (.cells #[.int .i64 0, .int .i64 0, .int .i64 0, .int .i64 0, .int .i64 0, .int .i64 0, .int .i64 0, .slice none 0 0, .string ⟨#[]⟩, .int .i64 0] 32)) := blk (heap_alloc_new w (.cells #[.int .i64 0, .int .i64 0, .int .i64 0, .int .i64 0, .int .i64 0, .int .i64 0, .int .i64 0, .slice none 0 0, .string ⟨#[]⟩, .int .i64 0] 32)) (all_alloc _ (.cells #[.string s, .int .i64 0, .bool false] 69))
  have hG0 : Hid (((w.alloc (.cells #[.int .i64 0, .int .i64 0, .int .i64 0, .int .i64 0, .int .i64 0, .int .i64 0, .int .i64 0, .slice none 0 0, .string ⟨#[]⟩, .int .i64 0] 32)).alloc (.cells #[.string s, .int .i64 0, .bool false] 69)).heap[w.heap.size + 1]? = some (.cells #[.string s, .int .i64 0, .bool false] 69)) := by
    have h := heap_alloc_new (w.alloc (.cells #[.int .i64 0, .int .i64 0, .int .i64 0, .int .i64 0, .int .i64 0, .int .i64 0, .int .i64 0, .slice none 0 0, .string ⟨#[]⟩, .int .i64 0] 32)) (.cells #[.string s, .int .i64 0, .bool false] 69)
    rw [show (w.alloc (.cells #[.int .i64 0, .int .i64 0, .int .i64 0, .int .i64 0, .int .i64 0, .int .i64 0, .int .i64 0, .slice none 0 0, .string ⟨#[]⟩, .int .i64 0] 32)).heap.size = w.heap.size + 1 by simp] at h
    exact h
  go_enter Try.func15, Try.ntmps15
  go_upto_region 12 with (first
    | (have _ := K7; go_at_call 47; refine (RS.num hs K7 D7).mono ?_; rintro e w8 ⟨n8, a8, b8, rfl, D8, J8, gr8⟩; have K8 := J8)
    | (have _ := K6; go_at_call 47; refine (RS.num hs K6 D6).mono ?_; rintro e w7 ⟨n7, a7, b7, rfl, D7, J7, gr7⟩; have c7 := J7.cellH 6 _ rfl; have f7 := J7.frozenH 6; have K7 := J7.store 6 (.int .i64 n7))
    | (have _ := K5; go_at_call 47; refine (RS.num hs K5 D5).mono ?_; rintro e w6 ⟨n6, a6, b6, rfl, D6, J6, gr6⟩; have c6 := J6.cellH 5 _ rfl; have f6 := J6.frozenH 5; have K6 := J6.store 5 (.int .i64 n6))
    | (have _ := K4; go_at_call 47; refine (RS.num hs K4 D4).mono ?_; rintro e w5 ⟨n5, a5, b5, rfl, D5, J5, gr5⟩; have c5 := J5.cellH 4 _ rfl; have f5 := J5.frozenH 4; have K5 := J5.store 4 (.int .i64 n5))
    | (have _ := K3; go_at_call 47; refine (RS.num hs K3 D3).mono ?_; rintro e w4 ⟨n4, a4, b4, rfl, D4, J4, gr4⟩; have c4 := J4.cellH 3 _ rfl; have f4 := J4.frozenH 3; have K4 := J4.store 3 (.int .i64 n4))
    | (have _ := K2; go_at_call 47; refine (RS.num hs K2 D2).mono ?_; rintro e w3 ⟨n3, a3, b3, rfl, D3, J3, gr3⟩; have c3 := J3.cellH 2 _ rfl; have f3 := J3.frozenH 2; have K3 := J3.store 2 (.int .i64 n3))
    | (have _ := K1; go_at_call 47; refine (RS.num hs K1 D1).mono ?_; rintro e w2 ⟨n2, a2, b2, rfl, D2, J2, gr2⟩; have c2 := J2.cellH 1 _ rfl; have f2 := J2.frozenH 1; have K2 := J2.store 1 (.int .i64 n2))
    | (go_at_call 47; refine (num_any s 0 false (w.heap.size + 1) _ hs hG0.out).mono ?_; rintro e w1 ⟨rfl, hG1, gr1⟩; obtain ⟨n1, a1, b1, hr1⟩ : ∃ n a b, rdN s 0 false = (n, a, b) := ⟨_, _, _, rfl⟩; rw [hr1] at hG1 ⊢; have hl1 : w.heap.size + 1 < w1.heap.size := (Array.getElem?_eq_some_iff.1 hG1.out).1; have D1 : RdS s [n1] a1 b1 1 0 := (RdS.zero s 0).step hr1; have K1 := rs_start hW0 hG1.out gr1 n1))
  have J : Hid (RS w s (w.heap.size + 1) w1.heap.size #[.int .i64 n1, .int .i64 n2, .int .i64 n3, .int .i64 n4, .int .i64 n5, .int .i64 n6, .int .i64 n7, .slice none 0 0, .string ⟨#[]⟩] a8 b8 w8) := J8
  have D : Hid (RdS s [n1, n2, n3, n4, n5, n6, n7, n8] a8 b8 8 0) := D8
  clear K1 K2 K3 K4 K5 K6 K7 K8 J2 J3 J4 J5 J6 J7 J8 D1 D2 D3 D4 D5 D6 D7 D8 gr1 gr2 gr3 gr4 gr5 gr6 gr7 gr8 hG0 hW0 hG1 hr1 c2 c3 c4 c5 c6 c7 f2 f3 f4 f5 f6 f7
  generalize w.heap.size + 1 = g at J hl1 ⊢
  generalize w1.heap.size = h at J hl1 ⊢
  obtain ⟨G0, hG0⟩ : ∃ G0, w.heap.size = G0 := ⟨_, rfl⟩
  rw [hG0] at ⊢
  have x2 := cellW J.out.G 2 _ rfl w8 (Below.refl _ _)
  have f2 := frozenW J.out.G 2 w8 (Below.refl _ _)
  by_cases good : b8 = false ∧ 0 ≤ n8 ∧ n8 ≤ 4
  case neg =>
    have hX3 : X = (zeroSy, 3) := by rw [← hX.out]; exact sayRes_none h8 (saidR_bad D.out good)
    subst hX3
    go_cut [] (fun wx => Hid (RS w s g h #[.int .i64 n1, .int .i64 n2, .int .i64 n3, .int .i64 n4, .int .i64 n5, .int .i64 n6, .int .i64 n7, .slice none 0 0, .string ⟨#[]⟩] a8 true wx))
    case first =>
      cases b8 with
      | true =>
        go_wp2
        go_meet
        exact J.out.bad true
      | false =>
        have hIs : (decide (0 ≤ n8) && decide (n8 ≤ 4)) = false := by
          by_cases h1 : 0 ≤ n8
          · by_cases h2 : n8 ≤ 4
            · exact absurd ⟨rfl, h1, h2⟩ good
            · simp [h2]
          · simp [h1]
        go_wp2_with (go_at_call 48; refine (l02Is_any n8 0 4 _).mono ?_; rintro e w9 ⟨rfl, rfl⟩; rw [hIs])
        go_meet
        exact J.out.bad true
    case rest =>
      clear x2 f2 J D hX good
      rename World => z
      go_upto_region 13 with fail
      go_loopw [5] (fun k wr => k = .int .i64 n8 ∧ Hid (RS w s g h #[.int .i64 n1, .int .i64 n2, .int .i64 n3, .int .i64 n4, .int .i64 n5, .int .i64 n6, .int .i64 n7, .slice none 0 0, .string ⟨#[]⟩] a8 true wr)) (fun _ _ => 0)
      case atStart => exact ⟨rfl, hcut.out⟩
      case round =>
        obtain ⟨rfl, JR⟩ := hrel
        have x2 := cellW JR.out.G 2 _ rfl wr (Below.refl _ _)
        have HT := text_any s a8 true g wr hs JR.out.G
        have hrt : rdT s a8 true = (ByteArray.empty, a8, true) := by unfold rdT; rw [if_neg (by simp)]
        rw [hrt] at HT
        simp only at HT
        by_cases h0 : 0 < n8
        all_goals
          go_wp2_with (go_at_call 49; refine HT.mono ?_; rintro e w9 ⟨rfl, hG9, gr9⟩; have J9 := JR.out.call hG9.out gr9; have c8 := J9.cellH 8 _ rfl; have f8 := J9.frozenH 8; have y2 := cellW J9.G 2 _ rfl w9 (Below.refl _ _); have J10 := J9.store 8 (.string ByteArray.empty); have hR10 := J10.R; have hbel := J10.bel; rw [hG0] at hR10 hbel; have r0 := cellW hR10 0 _ rfl _ (Below.refl _ _); have q0 := frozenW hR10 0 _ (Below.refl _ _); have r1 := cellW hR10 1 _ rfl _ (Below.refl _ _); have q1 := frozenW hR10 1 _ (Below.refl _ _); have r2 := cellW hR10 2 _ rfl _ (Below.refl _ _); have q2 := frozenW hR10 2 _ (Below.refl _ _); have r3 := cellW hR10 3 _ rfl _ (Below.refl _ _); have q3 := frozenW hR10 3 _ (Below.refl _ _); have r4 := cellW hR10 4 _ rfl _ (Below.refl _ _); have q4 := frozenW hR10 4 _ (Below.refl _ _); have r5 := cellW hR10 5 _ rfl _ (Below.refl _ _); have q5 := frozenW hR10 5 _ (Below.refl _ _); have r6 := cellW hR10 6 _ rfl _ (Below.refl _ _); have q6 := frozenW hR10 6 _ (Below.refl _ _); have r7 := cellW hR10 7 _ rfl _ (Below.refl _ _); have q7 := frozenW hR10 7 _ (Below.refl _ _); have r8 := cellW hR10 8 _ rfl _ (Below.refl _ _); have q8 := frozenW hR10 8 _ (Below.refl _ _); have r9 := cellW hR10 9 _ rfl _ (Below.refl _ _); have q9 := frozenW hR10 9 _ (Below.refl _ _))
          exact bodyPost_ret (v := .agg #[.int .i64 0, .int .i64 0, .int .i64 0, .int .i64 0, .int .i64 0, .int .i64 0, .int .i64 0, .slice none 0 0, .string ⟨#[]⟩, .int .i64 3]) (by simp [results, Try.results15, go_sem, r0, r1, r2, r3, r4, r5, r6, r7, r8, r9]) rfl ⟨.slice none 0 0, rfl, OwnI.nil _ _, (Below.setCell (Below.setCell (Below.setCell (Below.setCell (Below.setCell (Below.setCell (Below.setCell (Below.setCell (Below.setCell (Below.setCell hbel (by simp only; omega) _) (by simp only; omega) _) (by simp only; omega) _) (by simp only; omega) _) (by simp only; omega) _) (by simp only; omega) _) (by simp only; omega) _) (by simp only; omega) _) (by simp only; omega) _) (by simp only; omega) _)⟩
  obtain ⟨rfl, h0, h4⟩ := good
  have hN8 := D.out.1 rfl
  obtain ⟨K, rfl⟩ : ∃ K : Nat, n8 = (K : Int) := ⟨n8.toNat, by omega⟩
  have hsP := saidP_eq hN8
  rw [Int.toNat_natCast] at hsP
  have hpos : (s.toList == ([] : List UInt8)) = false := by
    have h1 := numsR_at (s := s) (a := 0) (by omega) (by omega) hN8
    rw [empty_iff, decide_eq_false (by omega)]
  have hat8 := numsR_at (s := s) (a := 0) (by omega) (by omega) hN8
  have hIs : (decide ((0 : Int) ≤ (K : Int)) && decide ((K : Int) ≤ 4)) = true := by simp; omega
  clear D hN8
  go_cut [] (fun wx => Hid (RS w s g h #[.int .i64 n1, .int .i64 n2, .int .i64 n3, .int .i64 n4, .int .i64 n5, .int .i64 n6, .int .i64 n7, .slice none 0 0, .string ⟨#[]⟩] a8 false wx))
  case first =>
    go_wp2_with (go_at_call 48; refine (l02Is_any _ 0 4 _).mono ?_; rintro e w9 ⟨rfl, rfl⟩; rw [hIs])
    go_meet
    exact J.out.bad false
  case rest =>
    clear x2 f2 J hIs
    rename World => z
    have hgh : g < h + 1 := by have h1 := hcut.out.ne; have h2 := hl1; omega
    have hG0h : G0 < h := by have h1 := hcut.out.ne; omega
    go_upto_region 13 with fail
    go_loopw [5] (LpS w s g h n1 n2 n3 n4 n5 n6 n7 K a8) (fun k _ => (intOf k).toNat)
    case atStart => exact ⟨0, [], a8, false, _, Nat.zero_le _, by simp, RdS.zero s a8, hcut.out, OwnI.nil _ _, rfl⟩
    case round =>
      obtain ⟨j, lw, a, b, v, hj, rfl, HD, HJ, HO, hlen⟩ := hrel
      subst hlen
      obtain ⟨pv, cv, rfl⟩ := HO.out.shape
      have x2 := cellW HJ.out.G 2 _ rfl wr (Below.refl _ _)
      cases b with
      | true =>
        have hX3 : X = (zeroSy, 3) := by
          rw [← hX.out]
          refine sayRes_none h8 (saidR_of_none ?_)
          rw [hsP, numsR_none (HD.out.2 rfl) K hj]
        subst hX3
        have HT := text_any s a true g wr hs HJ.out.G
        have hrt : rdT s a true = (ByteArray.empty, a, true) := by unfold rdT; rw [if_neg (by simp)]
        rw [hrt] at HT
        simp only at HT
        by_cases h0 : (0 : Int) < (K : Int) - (lw.length : Int)
        all_goals
          go_wp2_with (go_at_call 49; refine HT.mono ?_; rintro e w9 ⟨rfl, hG9, gr9⟩; have J9 := HJ.out.call hG9.out gr9; have c8 := J9.cellH 8 _ rfl; have f8 := J9.frozenH 8; have y2 := cellW J9.G 2 _ rfl w9 (Below.refl _ _); have J10 := J9.store 8 (.string ByteArray.empty); have hR10 := J10.R; have hbel := J10.bel; rw [hG0] at hR10 hbel; have r0 := cellW hR10 0 _ rfl _ (Below.refl _ _); have q0 := frozenW hR10 0 _ (Below.refl _ _); have r1 := cellW hR10 1 _ rfl _ (Below.refl _ _); have q1 := frozenW hR10 1 _ (Below.refl _ _); have r2 := cellW hR10 2 _ rfl _ (Below.refl _ _); have q2 := frozenW hR10 2 _ (Below.refl _ _); have r3 := cellW hR10 3 _ rfl _ (Below.refl _ _); have q3 := frozenW hR10 3 _ (Below.refl _ _); have r4 := cellW hR10 4 _ rfl _ (Below.refl _ _); have q4 := frozenW hR10 4 _ (Below.refl _ _); have r5 := cellW hR10 5 _ rfl _ (Below.refl _ _); have q5 := frozenW hR10 5 _ (Below.refl _ _); have r6 := cellW hR10 6 _ rfl _ (Below.refl _ _); have q6 := frozenW hR10 6 _ (Below.refl _ _); have r7 := cellW hR10 7 _ rfl _ (Below.refl _ _); have q7 := frozenW hR10 7 _ (Below.refl _ _); have r8 := cellW hR10 8 _ rfl _ (Below.refl _ _); have q8 := frozenW hR10 8 _ (Below.refl _ _); have r9 := cellW hR10 9 _ rfl _ (Below.refl _ _); have q9 := frozenW hR10 9 _ (Below.refl _ _))
          exact bodyPost_ret (v := .agg #[.int .i64 0, .int .i64 0, .int .i64 0, .int .i64 0, .int .i64 0, .int .i64 0, .int .i64 0, .slice none 0 0, .string ⟨#[]⟩, .int .i64 3]) (by simp [results, Try.results15, go_sem, r0, r1, r2, r3, r4, r5, r6, r7, r8, r9]) rfl ⟨.slice none 0 0, rfl, OwnI.nil _ _, (Below.setCell (Below.setCell (Below.setCell (Below.setCell (Below.setCell (Below.setCell (Below.setCell (Below.setCell (Below.setCell (Below.setCell hbel (by simp only; omega) _) (by simp only; omega) _) (by simp only; omega) _) (by simp only; omega) _) (by simp only; omega) _) (by simp only; omega) _) (by simp only; omega) _) (by simp only; omega) _) (by simp only; omega) _) (by simp only; omega) _)⟩
      | false =>
        by_cases hjK : lw.length < K
        · have x7 := HJ.out.cellH 7 _ rfl
          have hk0 : (0 : Int) < (K : Int) - (lw.length : Int) := by omega
          go_upto_region 15 with fail
          have hJD : RS w s g h #[.int .i64 n1, .int .i64 n2, .int .i64 n3, .int .i64 n4, .int .i64 n5, .int .i64 n6, .int .i64 n7, .slice pv lw.length cv, .string ⟨#[]⟩] a false wr.drew := HJ.out.below (Below.drew (Below.refl _ _))
          have hOD : OwnI wr.drew (h + 1) (.slice pv lw.length cv) lw := HO.out.below (Below.drew (Below.refl _ _))
          go_region_law (first
            | (have _ := hOA; refine step_append_I rfl (.tmp 64) (.tmp 67) rfl (h + 1) (.slice pv lw.length cv) lw rfl hOA w9.heap.size n9 rfl (cellW (heap_alloc_new w9 (.cells #[.int .i64 n9] 2)) 0 _ rfl _ (Below.refl _ _)) (by omega) (Nat.succ_le_of_lt (Array.getElem?_eq_some_iff.1 hJA.H).1) ?_; intro v10 w10 hO10 hgr10; have J10 := hJA.grown hOA hgh (Nat.lt_succ_self h) hgr10; have c10 := J10.cellH 7 _ rfl; have f10 := J10.frozenH 7; obtain ⟨p10, cap10, rfl⟩ := hO10.shape)
            | (go_simp; go_at_call 47; refine (RS.num hs hJD HD.out).mono ?_; rintro e w9 ⟨n9, a9, b9, rfl, D9, J9, gr9⟩; have z7 := J9.cellH 7 _ rfl; have hO9 := hOD.grown gr9 hgh; have hJA := J9.below (all_alloc w9 (.cells #[.int .i64 n9] 2)); have hOA := hO9.below (all_alloc w9 (.cells #[.int .i64 n9] 2)); have u7 := hJA.cellH 7 _ rfl))
          all_goals
            go_wp2
            go_roundw
            case rel => exact ⟨lw.length + 1, lw ++ [n9], a9, b9, _, by omega, by go_num, D9, J10.store 7 _, (show OwnI _ _ _ _ by have h1 := hO10.far (a := ⟨h, 7, none⟩) (by show h < h + 1; omega) (.slice p10 (lw.length + 1) cap10); rw [List.length_append] at h1; exact h1), by simp⟩
            case measure => simp [intOf]; omega
        · obtain rfl : K = lw.length := by omega
          have hnW := HD.out.1 rfl
          rw [hnW] at hsP
          simp only at hsP
          by_cases hc : (getT s a).2.2 = 0
          case neg =>
            have hX3 : X = (zeroSy, 3) := by
              rw [← hX.out]
              refine sayRes_none h8 (saidR_of_none ?_)
              rw [hsP, if_neg hc]
            subst hX3
            have HT := text_any s a false g wr hs HJ.out.G
            have hrt : rdT s a false = (ByteArray.empty, a, true) := by unfold rdT; rw [if_neg (by simp [hc])]
            rw [hrt] at HT
            simp only at HT
            have hk0 : ¬ (0 : Int) < (lw.length : Int) - (lw.length : Int) := by omega
            go_wp2_with (go_at_call 49; refine HT.mono ?_; rintro e w9 ⟨rfl, hG9, gr9⟩; have J9 := HJ.out.call hG9.out gr9; have c8 := J9.cellH 8 _ rfl; have f8 := J9.frozenH 8; have y2 := cellW J9.G 2 _ rfl w9 (Below.refl _ _); have J10 := J9.store 8 (.string ByteArray.empty); have hR10 := J10.R; have hbel := J10.bel; rw [hG0] at hR10 hbel; have r0 := cellW hR10 0 _ rfl _ (Below.refl _ _); have q0 := frozenW hR10 0 _ (Below.refl _ _); have r1 := cellW hR10 1 _ rfl _ (Below.refl _ _); have q1 := frozenW hR10 1 _ (Below.refl _ _); have r2 := cellW hR10 2 _ rfl _ (Below.refl _ _); have q2 := frozenW hR10 2 _ (Below.refl _ _); have r3 := cellW hR10 3 _ rfl _ (Below.refl _ _); have q3 := frozenW hR10 3 _ (Below.refl _ _); have r4 := cellW hR10 4 _ rfl _ (Below.refl _ _); have q4 := frozenW hR10 4 _ (Below.refl _ _); have r5 := cellW hR10 5 _ rfl _ (Below.refl _ _); have q5 := frozenW hR10 5 _ (Below.refl _ _); have r6 := cellW hR10 6 _ rfl _ (Below.refl _ _); have q6 := frozenW hR10 6 _ (Below.refl _ _); have r7 := cellW hR10 7 _ rfl _ (Below.refl _ _); have q7 := frozenW hR10 7 _ (Below.refl _ _); have r8 := cellW hR10 8 _ rfl _ (Below.refl _ _); have q8 := frozenW hR10 8 _ (Below.refl _ _); have r9 := cellW hR10 9 _ rfl _ (Below.refl _ _); have q9 := frozenW hR10 9 _ (Below.refl _ _))
            exact bodyPost_ret (v := .agg #[.int .i64 0, .int .i64 0, .int .i64 0, .int .i64 0, .int .i64 0, .int .i64 0, .int .i64 0, .slice none 0 0, .string ⟨#[]⟩, .int .i64 3]) (by simp [results, Try.results15, go_sem, r0, r1, r2, r3, r4, r5, r6, r7, r8, r9]) rfl ⟨.slice none 0 0, rfl, OwnI.nil _ _, (Below.setCell (Below.setCell (Below.setCell (Below.setCell (Below.setCell (Below.setCell (Below.setCell (Below.setCell (Below.setCell (Below.setCell hbel (by simp only; omega) _) (by simp only; omega) _) (by simp only; omega) _) (by simp only; omega) _) (by simp only; omega) _) (by simp only; omega) _) (by simp only; omega) _) (by simp only; omega) _) (by simp only; omega) _) (by simp only; omega) _)⟩
          rw [if_pos hc] at hsP
          obtain ⟨y, hy⟩ : ∃ y : Sy, y = ⟨n1, n2, n3, ⟨n4, n5, n6, n7⟩, lw, (getT s a).1⟩ := ⟨_, rfl⟩
          rw [← hy] at hsP
          have hbd := saidP_bounds hs hsP
          have HB : Hid (∀ (W : World) (p : Option Addr) (c : Nat), RowI W (.slice p lw.length c) lw → Calls Try.prog 12 #[.agg #[.int .i64 n1, .int .i64 n2, .int .i64 n3, .int .i64 n4, .int .i64 n5, .int .i64 n6, .int .i64 n7, .slice p lw.length c, .string (getT s a).1]] W fun e w' => e = .returned (.string (sayB y)) ∧ Below W.heap.size W w') := fun W p c h => by
            have h1 := specSayBytes_any y p c W (by unfold maxLen; omega) (by omega)
            rw [hy] at h1 ⊢
            exact h1 h
          have HT := text_any s a false g wr hs HJ.out.G
          have hrt : rdT s a false = ((getT s a).1, (getT s a).2.1, false) := by unfold rdT; rw [if_pos ⟨rfl, hc⟩]
          rw [hrt] at HT
          simp only at HT
          have hk0 : ¬ (0 : Int) < (lw.length : Int) - (lw.length : Int) := by omega
          have hXe : Hid (if sayB y = s then X = (y, 0) else X = (zeroSy, 3)) := by
            show if _ then _ else _
            by_cases hq : sayB y = s
            · rw [if_pos hq, ← hX.out]; exact sayRes_some h8 hsP hq
            · rw [if_neg hq, ← hX.out]; exact sayRes_not h8 hsP hq
          generalize (getT s a).1 = t at HT HB hy
          generalize (getT s a).2.1 = q at HT
          have hO := HO.out
          clear hsP hnW hX hbd hrt hc
          by_cases hq : sayB y = s
          · have hXv : X = (y, 0) := by have h1 := hXe.out; rwa [if_pos hq] at h1
            subst hXv
            rw [hq] at HB
            clear hXe hq
            subst hy
            have es : (s.toList == s.toList) = true := by simp
            go_wp2_with (first
              | (go_at_call 49; refine HT.mono ?_; rintro e w9 ⟨rfl, hG9, gr9⟩; have J9 := HJ.out.call hG9.out gr9; have c8 := J9.cellH 8 _ rfl; have f8 := J9.frozenH 8; have y2 := cellW J9.G 2 _ rfl w9 (Below.refl _ _); have J10 := J9.store 8 (.string t); have o10 := (hO.grown gr9 hgh).far (a := ⟨h, 8, none⟩) (by simp only; omega) (.string t); have s0 := J10.cellH 0 _ rfl; have s1 := J10.cellH 1 _ rfl; have s2 := J10.cellH 2 _ rfl; have s3 := J10.cellH 3 _ rfl; have s4 := J10.cellH 4 _ rfl; have s5 := J10.cellH 5 _ rfl; have s6 := J10.cellH 6 _ rfl; have s7 := J10.cellH 7 _ rfl; have s8 := J10.cellH 8 _ rfl)
              | (go_at_call 12; refine (HB.out _ _ _ o10.row).mono ?_; rintro e w11 ⟨rfl, hb11⟩; have J11 := J10.below hb11; have o11 := o10.below hb11; have hR10 := J11.R; have hbel := J11.bel; rw [hG0] at hR10 hbel; have m0 := J11.cellH 0 _ rfl; have m1 := J11.cellH 1 _ rfl; have m2 := J11.cellH 2 _ rfl; have m3 := J11.cellH 3 _ rfl; have m4 := J11.cellH 4 _ rfl; have m5 := J11.cellH 5 _ rfl; have m6 := J11.cellH 6 _ rfl; have m7 := J11.cellH 7 _ rfl; have m8 := J11.cellH 8 _ rfl; have r0 := cellW hR10 0 _ rfl _ (Below.refl _ _); have q0 := frozenW hR10 0 _ (Below.refl _ _); have r1 := cellW hR10 1 _ rfl _ (Below.refl _ _); have q1 := frozenW hR10 1 _ (Below.refl _ _); have r2 := cellW hR10 2 _ rfl _ (Below.refl _ _); have q2 := frozenW hR10 2 _ (Below.refl _ _); have r3 := cellW hR10 3 _ rfl _ (Below.refl _ _); have q3 := frozenW hR10 3 _ (Below.refl _ _); have r4 := cellW hR10 4 _ rfl _ (Below.refl _ _); have q4 := frozenW hR10 4 _ (Below.refl _ _); have r5 := cellW hR10 5 _ rfl _ (Below.refl _ _); have q5 := frozenW hR10 5 _ (Below.refl _ _); have r6 := cellW hR10 6 _ rfl _ (Below.refl _ _); have q6 := frozenW hR10 6 _ (Below.refl _ _); have r7 := cellW hR10 7 _ rfl _ (Below.refl _ _); have q7 := frozenW hR10 7 _ (Below.refl _ _); have r8 := cellW hR10 8 _ rfl _ (Below.refl _ _); have q8 := frozenW hR10 8 _ (Below.refl _ _); have r9 := cellW hR10 9 _ rfl _ (Below.refl _ _); have q9 := frozenW hR10 9 _ (Below.refl _ _)))
            exact bodyPost_ret (v := .agg #[.int .i64 n1, .int .i64 n2, .int .i64 n3, .int .i64 n4, .int .i64 n5, .int .i64 n6, .int .i64 n7, .slice pv lw.length cv, .string t, .int .i64 0]) (by simp [results, Try.results15, go_sem, r0, r1, r2, r3, r4, r5, r6, r7, r8, r9]) rfl ⟨_, rfl, OwnI.le (OwnI.far (OwnI.far (OwnI.far (OwnI.far (OwnI.far (OwnI.far (OwnI.far (OwnI.far (OwnI.far (OwnI.far o11 (by simp only; omega) _) (by simp only; omega) _) (by simp only; omega) _) (by simp only; omega) _) (by simp only; omega) _) (by simp only; omega) _) (by simp only; omega) _) (by simp only; omega) _) (by simp only; omega) _) (by simp only; omega) _) (by omega), (Below.setCell (Below.setCell (Below.setCell (Below.setCell (Below.setCell (Below.setCell (Below.setCell (Below.setCell (Below.setCell (Below.setCell hbel (by simp only; omega) _) (by simp only; omega) _) (by simp only; omega) _) (by simp only; omega) _) (by simp only; omega) _) (by simp only; omega) _) (by simp only; omega) _) (by simp only; omega) _) (by simp only; omega) _) (by simp only; omega) _)⟩
          · have hXv : X = (zeroSy, 3) := by have h1 := hXe.out; rwa [if_neg hq] at h1
            subst hXv
            have es : ((sayB y).toList == s.toList) = false := by
              rw [Lib.toList_data, Lib.toList_data, beq_eq_false_iff_ne]
              intro h
              exact hq (bytes_ext h)
            generalize sayB y = B at HB es
            clear hXe hq
            go_wp2_with (first
              | (go_at_call 49; refine HT.mono ?_; rintro e w9 ⟨rfl, hG9, gr9⟩; have J9 := HJ.out.call hG9.out gr9; have c8 := J9.cellH 8 _ rfl; have f8 := J9.frozenH 8; have y2 := cellW J9.G 2 _ rfl w9 (Below.refl _ _); have J10 := J9.store 8 (.string t); have o10 := (hO.grown gr9 hgh).far (a := ⟨h, 8, none⟩) (by simp only; omega) (.string t); have s0 := J10.cellH 0 _ rfl; have s1 := J10.cellH 1 _ rfl; have s2 := J10.cellH 2 _ rfl; have s3 := J10.cellH 3 _ rfl; have s4 := J10.cellH 4 _ rfl; have s5 := J10.cellH 5 _ rfl; have s6 := J10.cellH 6 _ rfl; have s7 := J10.cellH 7 _ rfl; have s8 := J10.cellH 8 _ rfl)
              | (go_at_call 12; refine (HB.out _ _ _ o10.row).mono ?_; rintro e w11 ⟨rfl, hb11⟩; have J11 := J10.below hb11; have o11 := o10.below hb11; have hR10 := J11.R; have hbel := J11.bel; rw [hG0] at hR10 hbel; have m0 := J11.cellH 0 _ rfl; have m1 := J11.cellH 1 _ rfl; have m2 := J11.cellH 2 _ rfl; have m3 := J11.cellH 3 _ rfl; have m4 := J11.cellH 4 _ rfl; have m5 := J11.cellH 5 _ rfl; have m6 := J11.cellH 6 _ rfl; have m7 := J11.cellH 7 _ rfl; have m8 := J11.cellH 8 _ rfl; have r0 := cellW hR10 0 _ rfl _ (Below.refl _ _); have q0 := frozenW hR10 0 _ (Below.refl _ _); have r1 := cellW hR10 1 _ rfl _ (Below.refl _ _); have q1 := frozenW hR10 1 _ (Below.refl _ _); have r2 := cellW hR10 2 _ rfl _ (Below.refl _ _); have q2 := frozenW hR10 2 _ (Below.refl _ _); have r3 := cellW hR10 3 _ rfl _ (Below.refl _ _); have q3 := frozenW hR10 3 _ (Below.refl _ _); have r4 := cellW hR10 4 _ rfl _ (Below.refl _ _); have q4 := frozenW hR10 4 _ (Below.refl _ _); have r5 := cellW hR10 5 _ rfl _ (Below.refl _ _); have q5 := frozenW hR10 5 _ (Below.refl _ _); have r6 := cellW hR10 6 _ rfl _ (Below.refl _ _); have q6 := frozenW hR10 6 _ (Below.refl _ _); have r7 := cellW hR10 7 _ rfl _ (Below.refl _ _); have q7 := frozenW hR10 7 _ (Below.refl _ _); have r8 := cellW hR10 8 _ rfl _ (Below.refl _ _); have q8 := frozenW hR10 8 _ (Below.refl _ _); have r9 := cellW hR10 9 _ rfl _ (Below.refl _ _); have q9 := frozenW hR10 9 _ (Below.refl _ _)))
            exact bodyPost_ret (v := .agg #[.int .i64 0, .int .i64 0, .int .i64 0, .int .i64 0, .int .i64 0, .int .i64 0, .int .i64 0, .slice none 0 0, .string ⟨#[]⟩, .int .i64 3]) (by simp [results, Try.results15, go_sem, r0, r1, r2, r3, r4, r5, r6, r7, r8, r9]) rfl ⟨.slice none 0 0, rfl, OwnI.nil _ _, (Below.setCell (Below.setCell (Below.setCell (Below.setCell (Below.setCell (Below.setCell (Below.setCell (Below.setCell (Below.setCell (Below.setCell hbel (by simp only; omega) _) (by simp only; omega) _) (by simp only; omega) _) (by simp only; omega) _) (by simp only; omega) _) (by simp only; omega) _) (by simp only; omega) _) (by simp only; omega) _) (by simp only; omega) _) (by simp only; omega) _)⟩
end Go.Proofs.Ythmbfkppjijelaa
