/- THE WALKS of SayRight, the program's and the model's. -/
import Derived.Test.YthmbfkppjijelaaSay
import Derived.Test.YthmbfkppjijelaaBox
import Derived.Deep.DeepCutAuto
namespace Go.Proofs.Ythmbfkppjijelaa
open Go.RowKit
set_option linter.unusedVariables false
set_option linter.unusedSimpArgs false

theorem isToAnother_any (k f t : Int) (s : St) (n : Nat) (p : Option Addr) (c : Nat) (b : ByteArray) (w : World) :
    Calls Try.prog 42 #[.agg #[.int .i64 k, .int .i64 f, .int .i64 t, .int .i64 s.g, .int .i64 s.o, .int .i64 s.b, .int .i64 s.h, .slice p n c, .string b]] w fun e w' => e = .returned (.bool (addrB t && !(t == f))) ∧ Below w.heap.size w w' := by
  cases hA : addrB t
  all_goals
    go_enter Try.func42, Try.ntmps42
    go_wp2_with (go_at_call 40; refine (isAddress_any t _).mono ?_; rintro e w1 ⟨rfl, rfl⟩; rw [hA])
    go_ret
    exact ⟨ret_bool (by simp [bne]), (Below.refl _ _).alloc (Nat.le_refl _) _⟩
theorem bodyRight_any (b : ByteArray) (w : World) (hb : b.size ≤ 9223372036854775807) : Calls Try.prog 44 #[.string b] w fun e w' => e = .returned (.bool (decide (1 ≤ b.size) && decide (b.size ≤ 20))) ∧ w = w' := by
  by_cases h1 : 1 ≤ b.size
  · by_cases h2 : b.size ≤ 20
    all_goals
      go_enter Try.func44, Try.ntmps44
      go_wp2
      go_ret
      exact ⟨ret_bool (by first | (simp [h1, h2]; done) | (simp [h1, h2]; omega)), rfl⟩
  · go_enter Try.func44, Try.ntmps44
    go_wp2
    go_ret
    exact ⟨ret_bool (by simp [h1]), rfl⟩
set_option maxRecDepth 100000 in
set_option maxHeartbeats 3200000 in
theorem sayRight_any (y : Sy) (p : Option Addr) (c : Nat) (w : World) (hz : y.b.size ≤ maxLen) (hl : y.ws.length ≤ 10000000) (hr : RowI w (.slice p y.ws.length c) y.ws) :
    Calls Try.prog 13 #[.agg #[.int .i64 y.k, .int .i64 y.f, .int .i64 y.t, .int .i64 y.s.g, .int .i64 y.s.o, .int .i64 y.s.b, .int .i64 y.s.h, .slice p y.ws.length c, .string y.b]] w fun e w' => e = .returned (.bool y.right) ∧ Below w.heap.size w w' := by
  obtain ⟨k, f, t, s, ws, b⟩ := y
  unfold maxLen at hz
  simp only at hz hl hr ⊢
  generalize hn : ws.length = n at hl hr ⊢
  have q := empty_iff b
  have HNO : Hid (s.right = true → s.none = decide (s.o = 0)) := St.none_o
  have HROW : Hid (∀ W, Below w.heap.size w W → RowI W (.slice p n c) ws) := fun W hW => hr.below hW
  clear hr
  have HA : Hid (∀ w : World, Calls Try.prog 40 #[.int .i64 f] w fun e w' => e = .returned (.bool (addrB f)) ∧ w = w') := fun w => isAddress_any f w
  have HS : Hid (∀ w : World, Calls Try.prog 19 #[.agg #[.int .i64 s.g, .int .i64 s.o, .int .i64 s.b, .int .i64 s.h]] w fun e w' => e = .returned (.bool s.right) ∧ Below w.heap.size w w') := fun w => stampRight_any s w
  have HW : Hid (∀ W, Below w.heap.size w W → Calls Try.prog 43 #[.slice p n c] W fun e w' => e = .returned (.bool (decide (n ≤ 4) && ws.all wordB)) ∧ Below W.heap.size W w') := fun W hW => by have h1 := wordsRight_any (.slice p n c) ws W (by omega) (HROW.out W hW); rw [hn] at h1; exact h1
  have HN : Hid (∀ w : World, Calls Try.prog 41 #[.agg #[.int .i64 s.g, .int .i64 s.o, .int .i64 s.b, .int .i64 s.h]] w fun e w' => e = .returned (.bool s.none) ∧ Below w.heap.size w w') := fun w => isNone_any s w
  have HT : Hid (∀ w : World, Calls Try.prog 42 #[.agg #[.int .i64 k, .int .i64 f, .int .i64 t, .int .i64 s.g, .int .i64 s.o, .int .i64 s.b, .int .i64 s.h, .slice p n c, .string b]] w fun e w' => e = .returned (.bool (addrB t && !(t == f))) ∧ Below w.heap.size w w') := fun w => isToAnother_any k f t s n p c b w
  have HB : Hid (∀ w : World, Calls Try.prog 44 #[.string b] w fun e w' => e = .returned (.bool (decide (1 ≤ b.size) && decide (b.size ≤ 20))) ∧ w = w') := fun w => bodyRight_any b w (by omega)
  have key : (Sy.mk k f t s ws b).right = ((addrB f && (s.right && (!s.none || k == 4))) &&
    if k = 1 then t == 0 && (decide (n = 0) && decide (b.size = 0))
    else if k = 2 then (addrB t && !(t == f)) && ((decide (n ≤ 4) && ws.all wordB) && decide (b.size = 0))
    else if k = 3 ∨ k = 4 then (addrB t && !(t == f)) && (decide (n = 0) && decide (b.size = 0))
    else if k = 5 then (addrB t && !(t == f)) && (decide (n = 0) && (decide (1 ≤ b.size) && decide (b.size ≤ 20)))
    else false) := by
    unfold Sy.right Sy.to
    simp only [Bool.and_assoc, hn]
  rw [key]
  clear key
  obtain ⟨AA, hAA⟩ : ∃ AA, Hid (addrB f = AA) := ⟨_, show _ = _ from rfl⟩
  rw [hAA.out] at HA ⊢
  obtain ⟨SS, hSS⟩ : ∃ SS, Hid (s.right = SS) := ⟨_, show _ = _ from rfl⟩
  rw [hSS.out] at HS HNO ⊢
  obtain ⟨NN, hNN⟩ : ∃ NN, Hid (s.none = NN) := ⟨_, show _ = _ from rfl⟩
  rw [hNN.out] at HNO ⊢
  rw [hNN.out] at HN
  obtain ⟨TT, hTT⟩ : ∃ TT, Hid ((addrB t && !(t == f)) = TT) := ⟨_, show _ = _ from rfl⟩
  rw [hTT.out] at HT ⊢
  obtain ⟨WW, hWW⟩ : ∃ WW, Hid ((decide (n ≤ 4) && ws.all wordB) = WW) := ⟨_, show _ = _ from rfl⟩
  have hWn : Hid (n = 0 → WW = true) := fun h => by rw [← hWW.out, List.eq_nil_of_length_eq_zero (hn.trans h), h]; rfl
  rw [hWW.out] at HW ⊢
  clear hn HROW
  obtain ⟨RR, hRR⟩ : ∃ RR, Hid ((AA && (SS && (!NN || k == 4))) = RR) := ⟨_, show _ = _ from rfl⟩
  rw [hRR.out]
  obtain ⟨res, hres⟩ : ∃ res, Hid ((RR && if k = 1 then t == 0 && (decide (n = 0) && decide (b.size = 0)) else if k = 2 then TT && (WW && decide (b.size = 0)) else if k = 3 ∨ k = 4 then TT && (decide (n = 0) && decide (b.size = 0)) else if k = 5 then TT && (decide (n = 0) && (decide (1 ≤ b.size) && decide (b.size ≤ 20))) else false) = res) := ⟨_, show _ = _ from rfl⟩
  rw [hres.out]
  go_enter Try.func13, Try.ntmps13
  go_upto_region 1 with fail
  have hX : Hid _ := heap_alloc_new w (.cells #[.int .i64 k, .int .i64 f, .int .i64 t, .int .i64 s.g, .int .i64 s.o, .int .i64 s.b, .int .i64 s.h, .slice p n c, .string b] 27)
  have hA0 := all_alloc w (.cells #[.int .i64 k, .int .i64 f, .int .i64 t, .int .i64 s.g, .int .i64 s.o, .int .i64 s.b, .int .i64 s.h, .slice p n c, .string b] 27)
  generalize w.alloc (.cells #[.int .i64 k, .int .i64 f, .int .i64 t, .int .i64 s.g, .int .i64 s.o, .int .i64 s.b, .int .i64 s.h, .slice p n c, .string b] 27) = A at hX hA0 ⊢
  generalize w.heap.size = G at hX ⊢
  go_cut [22] (fun s22 wx => s22 = .bool (!RR) ∧ Below A.heap.size A wx)
  case first =>
    have c0 := cellW hX.out 0 _ rfl A (Below.refl _ _)
    have c1 := cellW hX.out 1 _ rfl A (Below.refl _ _)
    have c2 := cellW hX.out 2 _ rfl A (Below.refl _ _)
    have c3 := cellW hX.out 3 _ rfl A (Below.refl _ _)
    have c4 := cellW hX.out 4 _ rfl A (Below.refl _ _)
    have c5 := cellW hX.out 5 _ rfl A (Below.refl _ _)
    have c6 := cellW hX.out 6 _ rfl A (Below.refl _ _)
    have c7 := cellW hX.out 7 _ rfl A (Below.refl _ _)
    have c8 := cellW hX.out 8 _ rfl A (Below.refl _ _)
    have hR := Below.refl A.heap.size A
    have hGl : G < A.heap.size := (Array.getElem?_eq_some_iff.1 hX.out).1
    cases AA with
    | false =>
      go_wp2_with (first
          | (go_at_call 40; refine (HA.out _).mono ?_; rintro e w1 ⟨rfl, rfl⟩)
          | (go_at_call 19; refine (HS.out _).mono ?_; rintro e w2 ⟨rfl, hb2⟩; obtain ⟨hc2, hf2⟩ := bcellF hb2; have hB2 : Below A.heap.size A w2 := keepB (by assumption) (Nat.le_refl _) hb2; have hy2 : G < w2.heap.size := (by have := hb2.size; omega))
          | (go_at_call 41; refine (HN.out _).mono ?_; rintro e w3 ⟨rfl, hb3⟩; obtain ⟨hc3, hf3⟩ := bcellF hb3; have hB3 : Below A.heap.size A w3 := keepB (by assumption) (Nat.le_refl _) hb3))
      go_meet
      exact ⟨by first | (rw [← hRR.out]; simp; done) | (rw [← hRR.out]; simp_all; done) | (rw [← hRR.out, m4]; simp_all; done), by assumption⟩
    | true =>
      cases SS with
      | false =>
        go_wp2_with (first
            | (go_at_call 40; refine (HA.out _).mono ?_; rintro e w1 ⟨rfl, rfl⟩)
            | (go_at_call 19; refine (HS.out _).mono ?_; rintro e w2 ⟨rfl, hb2⟩; obtain ⟨hc2, hf2⟩ := bcellF hb2; have hB2 : Below A.heap.size A w2 := keepB (by assumption) (Nat.le_refl _) hb2; have hy2 : G < w2.heap.size := (by have := hb2.size; omega))
            | (go_at_call 41; refine (HN.out _).mono ?_; rintro e w3 ⟨rfl, hb3⟩; obtain ⟨hc3, hf3⟩ := bcellF hb3; have hB3 : Below A.heap.size A w3 := keepB (by assumption) (Nat.le_refl _) hb3))
        go_meet
        exact ⟨by first | (rw [← hRR.out]; simp; done) | (rw [← hRR.out]; simp_all; done) | (rw [← hRR.out, m4]; simp_all; done), by assumption⟩
      | true =>
        cases NN with
        | false =>
          go_wp2_with (first
              | (go_at_call 40; refine (HA.out _).mono ?_; rintro e w1 ⟨rfl, rfl⟩)
              | (go_at_call 19; refine (HS.out _).mono ?_; rintro e w2 ⟨rfl, hb2⟩; obtain ⟨hc2, hf2⟩ := bcellF hb2; have hB2 : Below A.heap.size A w2 := keepB (by assumption) (Nat.le_refl _) hb2; have hy2 : G < w2.heap.size := (by have := hb2.size; omega))
              | (go_at_call 41; refine (HN.out _).mono ?_; rintro e w3 ⟨rfl, hb3⟩; obtain ⟨hc3, hf3⟩ := bcellF hb3; have hB3 : Below A.heap.size A w3 := keepB (by assumption) (Nat.le_refl _) hb3))
          go_meet
          exact ⟨by first | (rw [← hRR.out]; simp; done) | (rw [← hRR.out]; simp_all; done) | (rw [← hRR.out, m4]; simp_all; done), by assumption⟩
        | true =>
          by_cases k4 : k = 4
          · have n4 : (k != 4) = false := by simpa using k4
            have m4 : (k == 4) = true := by simpa using k4
            clear k4
            go_wp2_with (first
                | (go_at_call 40; refine (HA.out _).mono ?_; rintro e w1 ⟨rfl, rfl⟩)
                | (go_at_call 19; refine (HS.out _).mono ?_; rintro e w2 ⟨rfl, hb2⟩; obtain ⟨hc2, hf2⟩ := bcellF hb2; have hB2 : Below A.heap.size A w2 := keepB (by assumption) (Nat.le_refl _) hb2; have hy2 : G < w2.heap.size := (by have := hb2.size; omega))
                | (go_at_call 41; refine (HN.out _).mono ?_; rintro e w3 ⟨rfl, hb3⟩; obtain ⟨hc3, hf3⟩ := bcellF hb3; have hB3 : Below A.heap.size A w3 := keepB (by assumption) (Nat.le_refl _) hb3))
            go_meet
            exact ⟨by first | (rw [← hRR.out]; simp; done) | (rw [← hRR.out]; simp_all; done) | (rw [← hRR.out, m4]; simp_all; done), by assumption⟩
          · have n4 : (k != 4) = true := by simpa using k4
            have m4 : (k == 4) = false := by simpa using k4
            clear k4
            go_wp2_with (first
                | (go_at_call 40; refine (HA.out _).mono ?_; rintro e w1 ⟨rfl, rfl⟩)
                | (go_at_call 19; refine (HS.out _).mono ?_; rintro e w2 ⟨rfl, hb2⟩; obtain ⟨hc2, hf2⟩ := bcellF hb2; have hB2 : Below A.heap.size A w2 := keepB (by assumption) (Nat.le_refl _) hb2; have hy2 : G < w2.heap.size := (by have := hb2.size; omega))
                | (go_at_call 41; refine (HN.out _).mono ?_; rintro e w3 ⟨rfl, hb3⟩; obtain ⟨hc3, hf3⟩ := bcellF hb3; have hB3 : Below A.heap.size A w3 := keepB (by assumption) (Nat.le_refl _) hb3))
            go_meet
            exact ⟨by first | (rw [← hRR.out]; simp; done) | (rw [← hRR.out]; simp_all; done) | (rw [← hRR.out, m4]; simp_all; done), by assumption⟩
  case rest =>
    obtain ⟨rfl, hzz⟩ := hcut
    rename World => z
    have c0 := cellW hX.out 0 _ rfl z hzz
    have c1 := cellW hX.out 1 _ rfl z hzz
    have c2 := cellW hX.out 2 _ rfl z hzz
    have c3 := cellW hX.out 3 _ rfl z hzz
    have c4 := cellW hX.out 4 _ rfl z hzz
    have c5 := cellW hX.out 5 _ rfl z hzz
    have c6 := cellW hX.out 6 _ rfl z hzz
    have c7 := cellW hX.out 7 _ rfl z hzz
    have c8 := cellW hX.out 8 _ rfl z hzz
    have hGl : G < z.heap.size := Nat.lt_of_lt_of_le (Array.getElem?_eq_some_iff.1 hX.out).1 hzz.size
    clear hRR HA HS HN HNO hAA hSS hNN
    cases RR with
    | false =>
      go_wp2
      go_ret
      exact ⟨ret_bool (by rw [← hres.out]; simp), keepB hA0 (Nat.le_refl _) (by assumption)⟩
    | true =>
      by_cases k1 : k = 1
      · subst k1
        by_cases ht : t = 0
        · have t1 : (t == 0) = true := by simpa using ht
          by_cases h0 : n = 0
          · subst h0
            go_wp2
            go_ret
            exact ⟨ret_bool (by rw [← hres.out]; simp [q, ht]), keepB hA0 (Nat.le_refl _) (by assumption)⟩
          · have t0 : ((n : Int) == 0) = false := by simpa using h0
            go_wp2
            go_ret
            exact ⟨ret_bool (by rw [← hres.out]; simp [h0, ht]), keepB hA0 (Nat.le_refl _) (by assumption)⟩
        · have t1 : (t == 0) = false := by simpa using ht
          go_wp2
          go_ret
          exact ⟨ret_bool (by rw [← hres.out]; simp [ht]), keepB hA0 (Nat.le_refl _) (by assumption)⟩
      have m1 : (k == 1) = false := by simpa using k1
      by_cases k2 : k = 2
      · subst k2
        cases TT with
        | false =>
          go_wp2_with (first
              | (go_at_call 42; refine (HT.out _).mono ?_; rintro e w4 ⟨rfl, hb4⟩; obtain ⟨hc4, hf4⟩ := bcellF hb4; have hB4 : Below A.heap.size A w4 := keepB (by assumption) (Nat.le_refl _) hb4; have hy4 : G < w4.heap.size := (by have := hb4.size; omega)))
          go_ret
          exact ⟨ret_bool (by rw [← hres.out]; simp), keepB hA0 (Nat.le_refl _) (by assumption)⟩
        | true =>
          cases WW with
          | false =>
            go_wp2_with (first
                | (go_at_call 42; refine (HT.out _).mono ?_; rintro e w4 ⟨rfl, hb4⟩; obtain ⟨hc4, hf4⟩ := bcellF hb4; have hB4 : Below A.heap.size A w4 := keepB (by assumption) (Nat.le_refl _) hb4; have hy4 : G < w4.heap.size := (by have := hb4.size; omega))
                | (go_at_call 43; refine (HW.out _ (keepB hA0 (Nat.le_refl _) (by assumption))).mono ?_; rintro e w5 ⟨rfl, hb5⟩; obtain ⟨hc5, hf5⟩ := bcellF hb5; have hB5 : Below A.heap.size A w5 := keepB (by assumption) (Nat.le_refl _) hb5))
            go_ret
            exact ⟨ret_bool (by rw [← hres.out]; simp), keepB hA0 (Nat.le_refl _) (by assumption)⟩
          | true =>
            go_wp2_with (first
                | (go_at_call 42; refine (HT.out _).mono ?_; rintro e w4 ⟨rfl, hb4⟩; obtain ⟨hc4, hf4⟩ := bcellF hb4; have hB4 : Below A.heap.size A w4 := keepB (by assumption) (Nat.le_refl _) hb4; have hy4 : G < w4.heap.size := (by have := hb4.size; omega))
                | (go_at_call 43; refine (HW.out _ (keepB hA0 (Nat.le_refl _) (by assumption))).mono ?_; rintro e w5 ⟨rfl, hb5⟩; obtain ⟨hc5, hf5⟩ := bcellF hb5; have hB5 : Below A.heap.size A w5 := keepB (by assumption) (Nat.le_refl _) hb5))
            go_ret
            exact ⟨ret_bool (by rw [← hres.out]; simp [q]), keepB hA0 (Nat.le_refl _) (by assumption)⟩
      have m2 : (k == 2) = false := by simpa using k2
      by_cases k3 : k = 3
      · subst k3
        cases TT with
        | false =>
          go_wp2_with (first
              | (go_at_call 42; refine (HT.out _).mono ?_; rintro e w4 ⟨rfl, hb4⟩; obtain ⟨hc4, hf4⟩ := bcellF hb4; have hB4 : Below A.heap.size A w4 := keepB (by assumption) (Nat.le_refl _) hb4; have hy4 : G < w4.heap.size := (by have := hb4.size; omega)))
          go_ret
          exact ⟨ret_bool (by rw [← hres.out]; simp), keepB hA0 (Nat.le_refl _) (by assumption)⟩
        | true =>
          by_cases h0 : n = 0
          · subst h0
            go_wp2_with (first
                | (go_at_call 42; refine (HT.out _).mono ?_; rintro e w4 ⟨rfl, hb4⟩; obtain ⟨hc4, hf4⟩ := bcellF hb4; have hB4 : Below A.heap.size A w4 := keepB (by assumption) (Nat.le_refl _) hb4; have hy4 : G < w4.heap.size := (by have := hb4.size; omega)))
            go_ret
            exact ⟨ret_bool (by rw [← hres.out]; simp [q]), keepB hA0 (Nat.le_refl _) (by assumption)⟩
          · have t0 : ((n : Int) == 0) = false := by simpa using h0
            go_wp2_with (first
                | (go_at_call 42; refine (HT.out _).mono ?_; rintro e w4 ⟨rfl, hb4⟩; obtain ⟨hc4, hf4⟩ := bcellF hb4; have hB4 : Below A.heap.size A w4 := keepB (by assumption) (Nat.le_refl _) hb4; have hy4 : G < w4.heap.size := (by have := hb4.size; omega)))
            go_ret
            exact ⟨ret_bool (by rw [← hres.out]; simp [h0]), keepB hA0 (Nat.le_refl _) (by assumption)⟩
      have m3 : (k == 3) = false := by simpa using k3
      by_cases k4 : k = 4
      · subst k4
        cases TT with
        | false =>
          go_wp2_with (first
              | (go_at_call 42; refine (HT.out _).mono ?_; rintro e w4 ⟨rfl, hb4⟩; obtain ⟨hc4, hf4⟩ := bcellF hb4; have hB4 : Below A.heap.size A w4 := keepB (by assumption) (Nat.le_refl _) hb4; have hy4 : G < w4.heap.size := (by have := hb4.size; omega)))
          go_ret
          exact ⟨ret_bool (by rw [← hres.out]; simp), keepB hA0 (Nat.le_refl _) (by assumption)⟩
        | true =>
          by_cases h0 : n = 0
          · subst h0
            go_wp2_with (first
                | (go_at_call 42; refine (HT.out _).mono ?_; rintro e w4 ⟨rfl, hb4⟩; obtain ⟨hc4, hf4⟩ := bcellF hb4; have hB4 : Below A.heap.size A w4 := keepB (by assumption) (Nat.le_refl _) hb4; have hy4 : G < w4.heap.size := (by have := hb4.size; omega)))
            go_ret
            exact ⟨ret_bool (by rw [← hres.out]; simp [q]), keepB hA0 (Nat.le_refl _) (by assumption)⟩
          · have t0 : ((n : Int) == 0) = false := by simpa using h0
            go_wp2_with (first
                | (go_at_call 42; refine (HT.out _).mono ?_; rintro e w4 ⟨rfl, hb4⟩; obtain ⟨hc4, hf4⟩ := bcellF hb4; have hB4 : Below A.heap.size A w4 := keepB (by assumption) (Nat.le_refl _) hb4; have hy4 : G < w4.heap.size := (by have := hb4.size; omega)))
            go_ret
            exact ⟨ret_bool (by rw [← hres.out]; simp [h0]), keepB hA0 (Nat.le_refl _) (by assumption)⟩
      have m4 : (k == 4) = false := by simpa using k4
      by_cases k5 : k = 5
      · subst k5
        cases TT with
        | false =>
          go_wp2_with (first
              | (go_at_call 42; refine (HT.out _).mono ?_; rintro e w4 ⟨rfl, hb4⟩; obtain ⟨hc4, hf4⟩ := bcellF hb4; have hB4 : Below A.heap.size A w4 := keepB (by assumption) (Nat.le_refl _) hb4; have hy4 : G < w4.heap.size := (by have := hb4.size; omega)))
          go_ret
          exact ⟨ret_bool (by rw [← hres.out]; simp), keepB hA0 (Nat.le_refl _) (by assumption)⟩
        | true =>
          by_cases h0 : n = 0
          · subst h0
            go_wp2_with (first
                | (go_at_call 42; refine (HT.out _).mono ?_; rintro e w4 ⟨rfl, hb4⟩; obtain ⟨hc4, hf4⟩ := bcellF hb4; have hB4 : Below A.heap.size A w4 := keepB (by assumption) (Nat.le_refl _) hb4; have hy4 : G < w4.heap.size := (by have := hb4.size; omega))
                | (go_at_call 44; refine (HB.out _).mono ?_; rintro e w6 ⟨rfl, rfl⟩))
            go_ret
            exact ⟨ret_bool (by rw [← hres.out]; simp [q]), keepB hA0 (Nat.le_refl _) (by assumption)⟩
          · have t0 : ((n : Int) == 0) = false := by simpa using h0
            go_wp2_with (first
                | (go_at_call 42; refine (HT.out _).mono ?_; rintro e w4 ⟨rfl, hb4⟩; obtain ⟨hc4, hf4⟩ := bcellF hb4; have hB4 : Below A.heap.size A w4 := keepB (by assumption) (Nat.le_refl _) hb4; have hy4 : G < w4.heap.size := (by have := hb4.size; omega))
                | (go_at_call 44; refine (HB.out _).mono ?_; rintro e w6 ⟨rfl, rfl⟩))
            go_ret
            exact ⟨ret_bool (by rw [← hres.out]; simp [h0]), keepB hA0 (Nat.le_refl _) (by assumption)⟩
      have m5 : (k == 5) = false := by simpa using k5
      go_wp2
      go_ret
      exact ⟨ret_bool (by rw [← hres.out]; simp [k1, k2, k3, k4, k5]), keepB hA0 (Nat.le_refl _) (by assumption)⟩
end Go.Proofs.Ythmbfkppjijelaa
