/- THE WALK of the model's SayRight. -/
import Derived.Test.YthmbfkppjijelaaSayR
import Derived.Test.YthmbfkppjijelaaBox
import Derived.Deep.DeepCutAuto
namespace Go.Proofs.Ythmbfkppjijelaa
open Go.RowKit
set_option linter.unusedVariables false
set_option linter.unusedSimpArgs false

set_option maxRecDepth 100000 in
set_option maxHeartbeats 3200000 in
theorem specSayRight_any (y : Sy) (p : Option Addr) (c : Nat) (w : World) (hz : y.b.size ≤ maxLen) (hl : y.ws.length ≤ 10000000) (hr : RowI w (.slice p y.ws.length c) y.ws) :
    Calls Try.prog 14 #[.agg #[.int .i64 y.k, .int .i64 y.f, .int .i64 y.t, .int .i64 y.s.g, .int .i64 y.s.o, .int .i64 y.s.b, .int .i64 y.s.h, .slice p y.ws.length c, .string y.b]] w fun e w' => e = .returned (.bool y.right) ∧ Below w.heap.size w w' := by
  obtain ⟨k, f, t, ⟨sg, so, sb, sh⟩, ws, b⟩ := y
  unfold maxLen at hz
  simp only at hz hl hr ⊢
  generalize hn : ws.length = n at hl hr ⊢
  have q := empty_iff b
  have HNO : Hid ((St.mk sg so sb sh).right = true → (St.mk sg so sb sh).none = decide (so = 0)) := St.none_o
  have HROW : Hid (∀ W, Below w.heap.size w W → RowI W (.slice p n c) ws) := fun W hW => hr.below hW
  clear hr
  have HA : Hid (∀ w : World, Calls Try.prog 45 #[.int .i64 f] w fun e w' => e = .returned (.bool (addrB f)) ∧ w = w') := fun w => l02Addr_any f w
  have HS : Hid (∀ w : World, Calls Try.prog 20 #[.agg #[.int .i64 sg, .int .i64 so, .int .i64 sb, .int .i64 sh]] w fun e w' => e = .returned (.bool (St.mk sg so sb sh).right) ∧ Below w.heap.size w w') := fun w => specStampRight_any ⟨sg, so, sb, sh⟩ w
  have HW : Hid (∀ W, Below w.heap.size w W → Calls Try.prog 46 #[.slice p n c] W fun e w' => e = .returned (.bool (decide (n ≤ 4) && ws.all wordB)) ∧ Below W.heap.size W w') := fun W hW => by have h1 := l03Words_any (.slice p n c) ws W (by omega) (HROW.out W hW); rw [hn] at h1; exact h1
  have HT : Hid (∀ w : World, Calls Try.prog 45 #[.int .i64 t] w fun e w' => e = .returned (.bool (addrB t)) ∧ w = w') := fun w => l02Addr_any t w
  have key : (Sy.mk k f t ⟨sg, so, sb, sh⟩ ws b).right = ((addrB f && ((St.mk sg so sb sh).right && (!(St.mk sg so sb sh).none || k == 4))) &&
    if k = 1 then t == 0 && (decide (n = 0) && decide (b.size = 0))
    else if k = 2 then (addrB t && !(t == f)) && ((decide (n ≤ 4) && ws.all wordB) && decide (b.size = 0))
    else if k = 3 ∨ k = 4 then (addrB t && !(t == f)) && (decide (n = 0) && decide (b.size = 0))
    else if k = 5 then (addrB t && !(t == f)) && (decide (n = 0) && (decide (1 ≤ b.size) && decide (b.size ≤ 20)))
    else false) := by
    unfold Sy.right Sy.to
    simp only [Bool.and_assoc, hn]
  rw [key]
  clear key
  obtain ⟨AA, hAA⟩ : ∃ AA, Hid (addrB f = AA) := ⟨_, show _ = _ from rfl⟩
  rw [hAA.out] at HA ⊢
  obtain ⟨SS, hSS⟩ : ∃ SS, Hid ((St.mk sg so sb sh).right = SS) := ⟨_, show _ = _ from rfl⟩
  rw [hSS.out] at HS HNO ⊢
  obtain ⟨NN, hNN⟩ : ∃ NN, Hid ((St.mk sg so sb sh).none = NN) := ⟨_, show _ = _ from rfl⟩
  rw [hNN.out] at HNO ⊢
  obtain ⟨TA, hTA⟩ : ∃ TA, Hid (addrB t = TA) := ⟨_, show _ = _ from rfl⟩
  rw [hTA.out] at HT ⊢
  obtain ⟨WW, hWW⟩ : ∃ WW, Hid ((decide (n ≤ 4) && ws.all wordB) = WW) := ⟨_, show _ = _ from rfl⟩
  have hWn : Hid (n = 0 → WW = true) := fun h => by rw [← hWW.out, List.eq_nil_of_length_eq_zero (hn.trans h), h]; rfl
  rw [hWW.out] at HW ⊢
  clear hn HROW
  obtain ⟨RR, hRR⟩ : ∃ RR, Hid ((AA && (SS && (!NN || k == 4))) = RR) := ⟨_, show _ = _ from rfl⟩
  rw [hRR.out]
  obtain ⟨res, hres⟩ : ∃ res, Hid ((RR && if k = 1 then t == 0 && (decide (n = 0) && decide (b.size = 0)) else if k = 2 then (TA && !(t == f)) && (WW && decide (b.size = 0)) else if k = 3 ∨ k = 4 then (TA && !(t == f)) && (decide (n = 0) && decide (b.size = 0)) else if k = 5 then (TA && !(t == f)) && (decide (n = 0) && (decide (1 ≤ b.size) && decide (b.size ≤ 20))) else false) = res) := ⟨_, show _ = _ from rfl⟩
  rw [hres.out]
  go_enter Try.func14, Try.ntmps14
  go_upto_region 1 with fail
  have hX : Hid _ := heap_alloc_new w (.cells #[.int .i64 k, .int .i64 f, .int .i64 t, .int .i64 sg, .int .i64 so, .int .i64 sb, .int .i64 sh, .slice p n c, .string b] 27)
  have hA0 := all_alloc w (.cells #[.int .i64 k, .int .i64 f, .int .i64 t, .int .i64 sg, .int .i64 so, .int .i64 sb, .int .i64 sh, .slice p n c, .string b] 27)
  generalize w.alloc (.cells #[.int .i64 k, .int .i64 f, .int .i64 t, .int .i64 sg, .int .i64 so, .int .i64 sb, .int .i64 sh, .slice p n c, .string b] 27) = A at hX hA0 ⊢
  generalize w.heap.size = G at hX ⊢
  go_cut [45] (fun s45 wx => s45 = .bool (!(RR && ((k == 2 || decide (n = 0)) && (k == 5 || decide (b.size = 0))))) ∧ Below A.heap.size A wx)
  case first =>
    have c0 := cellW hX.out 0 _ rfl A (Below.refl _ _)
    have c1 := cellW hX.out 1 _ rfl A (Below.refl _ _)
    have c2 := cellW hX.out 2 _ rfl A (Below.refl _ _)
    have c3 := cellW hX.out 3 _ rfl A (Below.refl _ _)
    have c4 := cellW hX.out 4 _ rfl A (Below.refl _ _)
    have c5 := cellW hX.out 5 _ rfl A (Below.refl _ _)
    have c6 := cellW hX.out 6 _ rfl A (Below.refl _ _)
    have c7 := cellW hX.out 7 _ rfl A (Below.refl _ _)
    have c8 := cellW hX.out 8 _ rfl A (Below.refl _ _)
    have hR := Below.refl A.heap.size A
    have hGl : G < A.heap.size := (Array.getElem?_eq_some_iff.1 hX.out).1
    cases AA with
    | false =>
      go_wp2_with (first
          | (go_at_call 45; refine (HA.out _).mono ?_; rintro e w1 ⟨rfl, rfl⟩)
          | (go_at_call 20; refine (HS.out _).mono ?_; rintro e w2 ⟨rfl, hb2⟩; obtain ⟨hc2, hf2⟩ := bcellF hb2; have hB2 : Below A.heap.size A w2 := keepB (by assumption) (Nat.le_refl _) hb2; have hy2 : G < w2.heap.size := (by have := hb2.size; omega)))
      go_meet
      exact ⟨by first | (rw [← hRR.out]; simp; done) | (rw [← hRR.out]; simp [B0.out]; done) | (have B1 := B0.out; rw [← hRR.out]; simp_all; done) | (rw [← hRR.out]; simp_all; done), by assumption⟩
    | true =>
      cases SS with
      | false =>
        go_wp2_with (first
            | (go_at_call 45; refine (HA.out _).mono ?_; rintro e w1 ⟨rfl, rfl⟩)
            | (go_at_call 20; refine (HS.out _).mono ?_; rintro e w2 ⟨rfl, hb2⟩; obtain ⟨hc2, hf2⟩ := bcellF hb2; have hB2 : Below A.heap.size A w2 := keepB (by assumption) (Nat.le_refl _) hb2; have hy2 : G < w2.heap.size := (by have := hb2.size; omega)))
        go_meet
        exact ⟨by first | (rw [← hRR.out]; simp; done) | (rw [← hRR.out]; simp [B0.out]; done) | (have B1 := B0.out; rw [← hRR.out]; simp_all; done) | (rw [← hRR.out]; simp_all; done), by assumption⟩
      | true =>
        have hN : NN = decide (so = 0) := HNO.out rfl
        clear HNO
        subst hN
        by_cases o0 : so = 0
        · subst o0
          by_cases k4 : k = 4
          · have n4 : (k != 4) = false := by simpa using k4
            have m4 : (k == 4) = true := by simpa using k4
            clear k4
            by_cases k2 : k = 2
            · have n2 : (k != 2) = false := by simpa using k2
              have m2 : (k == 2) = true := by simpa using k2
              clear k2
              by_cases k5 : k = 5
              · have n5 : (k != 5) = false := by simpa using k5
                have m5 : (k == 5) = true := by simpa using k5
                clear k5
                go_wp2_with (first
                    | (go_at_call 45; refine (HA.out _).mono ?_; rintro e w1 ⟨rfl, rfl⟩)
                    | (go_at_call 20; refine (HS.out _).mono ?_; rintro e w2 ⟨rfl, hb2⟩; obtain ⟨hc2, hf2⟩ := bcellF hb2; have hB2 : Below A.heap.size A w2 := keepB (by assumption) (Nat.le_refl _) hb2; have hy2 : G < w2.heap.size := (by have := hb2.size; omega)))
                go_meet
                exact ⟨by first | (rw [← hRR.out]; simp; done) | (rw [← hRR.out]; simp [B0.out]; done) | (have B1 := B0.out; rw [← hRR.out]; simp_all; done) | (rw [← hRR.out]; simp_all; done), by assumption⟩
              · have n5 : (k != 5) = true := by simpa using k5
                have m5 : (k == 5) = false := by simpa using k5
                clear k5
                by_cases b0 : b.size = 0
                · have qc : (b.toList != ([] : List UInt8)) = false := by rw [bne, q]; simpa using b0
                  have qe : b.toList.isEmpty = true := by have h := qc; revert h; cases b.toList <;> simp
                  have B0 : Hid (b.size = 0) := b0
                  clear b0 q
                  go_wp2_with (first
                      | (go_at_call 45; refine (HA.out _).mono ?_; rintro e w1 ⟨rfl, rfl⟩)
                      | (go_at_call 20; refine (HS.out _).mono ?_; rintro e w2 ⟨rfl, hb2⟩; obtain ⟨hc2, hf2⟩ := bcellF hb2; have hB2 : Below A.heap.size A w2 := keepB (by assumption) (Nat.le_refl _) hb2; have hy2 : G < w2.heap.size := (by have := hb2.size; omega)))
                  go_meet
                  exact ⟨by first | (rw [← hRR.out]; simp; done) | (rw [← hRR.out]; simp [B0.out]; done) | (have B1 := B0.out; rw [← hRR.out]; simp_all; done) | (rw [← hRR.out]; simp_all; done), by assumption⟩
                · have qc : (b.toList != ([] : List UInt8)) = true := by rw [bne, q]; simpa using b0
                  have qe : b.toList.isEmpty = false := by have h := qc; revert h; cases b.toList <;> simp
                  have B0 : Hid (¬ b.size = 0) := b0
                  clear b0 q
                  go_wp2_with (first
                      | (go_at_call 45; refine (HA.out _).mono ?_; rintro e w1 ⟨rfl, rfl⟩)
                      | (go_at_call 20; refine (HS.out _).mono ?_; rintro e w2 ⟨rfl, hb2⟩; obtain ⟨hc2, hf2⟩ := bcellF hb2; have hB2 : Below A.heap.size A w2 := keepB (by assumption) (Nat.le_refl _) hb2; have hy2 : G < w2.heap.size := (by have := hb2.size; omega)))
                  go_meet
                  exact ⟨by first | (rw [← hRR.out]; simp; done) | (rw [← hRR.out]; simp [B0.out]; done) | (have B1 := B0.out; rw [← hRR.out]; simp_all; done) | (rw [← hRR.out]; simp_all; done), by assumption⟩
            · have n2 : (k != 2) = true := by simpa using k2
              have m2 : (k == 2) = false := by simpa using k2
              clear k2
              by_cases h0 : n = 0
              · subst h0
                by_cases k5 : k = 5
                · have n5 : (k != 5) = false := by simpa using k5
                  have m5 : (k == 5) = true := by simpa using k5
                  clear k5
                  go_wp2_with (first
                      | (go_at_call 45; refine (HA.out _).mono ?_; rintro e w1 ⟨rfl, rfl⟩)
                      | (go_at_call 20; refine (HS.out _).mono ?_; rintro e w2 ⟨rfl, hb2⟩; obtain ⟨hc2, hf2⟩ := bcellF hb2; have hB2 : Below A.heap.size A w2 := keepB (by assumption) (Nat.le_refl _) hb2; have hy2 : G < w2.heap.size := (by have := hb2.size; omega)))
                  go_meet
                  exact ⟨by first | (rw [← hRR.out]; simp; done) | (rw [← hRR.out]; simp [B0.out]; done) | (have B1 := B0.out; rw [← hRR.out]; simp_all; done) | (rw [← hRR.out]; simp_all; done), by assumption⟩
                · have n5 : (k != 5) = true := by simpa using k5
                  have m5 : (k == 5) = false := by simpa using k5
                  clear k5
                  by_cases b0 : b.size = 0
                  · have qc : (b.toList != ([] : List UInt8)) = false := by rw [bne, q]; simpa using b0
                    have qe : b.toList.isEmpty = true := by have h := qc; revert h; cases b.toList <;> simp
                    have B0 : Hid (b.size = 0) := b0
                    clear b0 q
                    go_wp2_with (first
                        | (go_at_call 45; refine (HA.out _).mono ?_; rintro e w1 ⟨rfl, rfl⟩)
                        | (go_at_call 20; refine (HS.out _).mono ?_; rintro e w2 ⟨rfl, hb2⟩; obtain ⟨hc2, hf2⟩ := bcellF hb2; have hB2 : Below A.heap.size A w2 := keepB (by assumption) (Nat.le_refl _) hb2; have hy2 : G < w2.heap.size := (by have := hb2.size; omega)))
                    go_meet
                    exact ⟨by first | (rw [← hRR.out]; simp; done) | (rw [← hRR.out]; simp [B0.out]; done) | (have B1 := B0.out; rw [← hRR.out]; simp_all; done) | (rw [← hRR.out]; simp_all; done), by assumption⟩
                  · have qc : (b.toList != ([] : List UInt8)) = true := by rw [bne, q]; simpa using b0
                    have qe : b.toList.isEmpty = false := by have h := qc; revert h; cases b.toList <;> simp
                    have B0 : Hid (¬ b.size = 0) := b0
                    clear b0 q
                    go_wp2_with (first
                        | (go_at_call 45; refine (HA.out _).mono ?_; rintro e w1 ⟨rfl, rfl⟩)
                        | (go_at_call 20; refine (HS.out _).mono ?_; rintro e w2 ⟨rfl, hb2⟩; obtain ⟨hc2, hf2⟩ := bcellF hb2; have hB2 : Below A.heap.size A w2 := keepB (by assumption) (Nat.le_refl _) hb2; have hy2 : G < w2.heap.size := (by have := hb2.size; omega)))
                    go_meet
                    exact ⟨by first | (rw [← hRR.out]; simp; done) | (rw [← hRR.out]; simp [B0.out]; done) | (have B1 := B0.out; rw [← hRR.out]; simp_all; done) | (rw [← hRR.out]; simp_all; done), by assumption⟩
              · have p0 : (0 : Int) < (n : Int) := by omega
                go_wp2_with (first
                    | (go_at_call 45; refine (HA.out _).mono ?_; rintro e w1 ⟨rfl, rfl⟩)
                    | (go_at_call 20; refine (HS.out _).mono ?_; rintro e w2 ⟨rfl, hb2⟩; obtain ⟨hc2, hf2⟩ := bcellF hb2; have hB2 : Below A.heap.size A w2 := keepB (by assumption) (Nat.le_refl _) hb2; have hy2 : G < w2.heap.size := (by have := hb2.size; omega)))
                go_meet
                exact ⟨by first | (rw [← hRR.out]; simp; done) | (rw [← hRR.out]; simp [B0.out]; done) | (have B1 := B0.out; rw [← hRR.out]; simp_all; done) | (rw [← hRR.out]; simp_all; done), by assumption⟩
          · have n4 : (k != 4) = true := by simpa using k4
            have m4 : (k == 4) = false := by simpa using k4
            clear k4
            go_wp2_with (first
                | (go_at_call 45; refine (HA.out _).mono ?_; rintro e w1 ⟨rfl, rfl⟩)
                | (go_at_call 20; refine (HS.out _).mono ?_; rintro e w2 ⟨rfl, hb2⟩; obtain ⟨hc2, hf2⟩ := bcellF hb2; have hB2 : Below A.heap.size A w2 := keepB (by assumption) (Nat.le_refl _) hb2; have hy2 : G < w2.heap.size := (by have := hb2.size; omega)))
            go_meet
            exact ⟨by first | (rw [← hRR.out]; simp; done) | (rw [← hRR.out]; simp [B0.out]; done) | (have B1 := B0.out; rw [← hRR.out]; simp_all; done) | (rw [← hRR.out]; simp_all; done), by assumption⟩
        · have qo : (so == 0) = false := by simpa using o0
          by_cases k2 : k = 2
          · have n2 : (k != 2) = false := by simpa using k2
            have m2 : (k == 2) = true := by simpa using k2
            clear k2
            by_cases k5 : k = 5
            · have n5 : (k != 5) = false := by simpa using k5
              have m5 : (k == 5) = true := by simpa using k5
              clear k5
              go_wp2_with (first
                  | (go_at_call 45; refine (HA.out _).mono ?_; rintro e w1 ⟨rfl, rfl⟩)
                  | (go_at_call 20; refine (HS.out _).mono ?_; rintro e w2 ⟨rfl, hb2⟩; obtain ⟨hc2, hf2⟩ := bcellF hb2; have hB2 : Below A.heap.size A w2 := keepB (by assumption) (Nat.le_refl _) hb2; have hy2 : G < w2.heap.size := (by have := hb2.size; omega)))
              go_meet
              exact ⟨by first | (rw [← hRR.out]; simp; done) | (rw [← hRR.out]; simp [B0.out]; done) | (have B1 := B0.out; rw [← hRR.out]; simp_all; done) | (rw [← hRR.out]; simp_all; done), by assumption⟩
            · have n5 : (k != 5) = true := by simpa using k5
              have m5 : (k == 5) = false := by simpa using k5
              clear k5
              by_cases b0 : b.size = 0
              · have qc : (b.toList != ([] : List UInt8)) = false := by rw [bne, q]; simpa using b0
                have qe : b.toList.isEmpty = true := by have h := qc; revert h; cases b.toList <;> simp
                have B0 : Hid (b.size = 0) := b0
                clear b0 q
                go_wp2_with (first
                    | (go_at_call 45; refine (HA.out _).mono ?_; rintro e w1 ⟨rfl, rfl⟩)
                    | (go_at_call 20; refine (HS.out _).mono ?_; rintro e w2 ⟨rfl, hb2⟩; obtain ⟨hc2, hf2⟩ := bcellF hb2; have hB2 : Below A.heap.size A w2 := keepB (by assumption) (Nat.le_refl _) hb2; have hy2 : G < w2.heap.size := (by have := hb2.size; omega)))
                go_meet
                exact ⟨by first | (rw [← hRR.out]; simp; done) | (rw [← hRR.out]; simp [B0.out]; done) | (have B1 := B0.out; rw [← hRR.out]; simp_all; done) | (rw [← hRR.out]; simp_all; done), by assumption⟩
              · have qc : (b.toList != ([] : List UInt8)) = true := by rw [bne, q]; simpa using b0
                have qe : b.toList.isEmpty = false := by have h := qc; revert h; cases b.toList <;> simp
                have B0 : Hid (¬ b.size = 0) := b0
                clear b0 q
                go_wp2_with (first
                    | (go_at_call 45; refine (HA.out _).mono ?_; rintro e w1 ⟨rfl, rfl⟩)
                    | (go_at_call 20; refine (HS.out _).mono ?_; rintro e w2 ⟨rfl, hb2⟩; obtain ⟨hc2, hf2⟩ := bcellF hb2; have hB2 : Below A.heap.size A w2 := keepB (by assumption) (Nat.le_refl _) hb2; have hy2 : G < w2.heap.size := (by have := hb2.size; omega)))
                go_meet
                exact ⟨by first | (rw [← hRR.out]; simp; done) | (rw [← hRR.out]; simp [B0.out]; done) | (have B1 := B0.out; rw [← hRR.out]; simp_all; done) | (rw [← hRR.out]; simp_all; done), by assumption⟩
          · have n2 : (k != 2) = true := by simpa using k2
            have m2 : (k == 2) = false := by simpa using k2
            clear k2
            by_cases h0 : n = 0
            · subst h0
              by_cases k5 : k = 5
              · have n5 : (k != 5) = false := by simpa using k5
                have m5 : (k == 5) = true := by simpa using k5
                clear k5
                go_wp2_with (first
                    | (go_at_call 45; refine (HA.out _).mono ?_; rintro e w1 ⟨rfl, rfl⟩)
                    | (go_at_call 20; refine (HS.out _).mono ?_; rintro e w2 ⟨rfl, hb2⟩; obtain ⟨hc2, hf2⟩ := bcellF hb2; have hB2 : Below A.heap.size A w2 := keepB (by assumption) (Nat.le_refl _) hb2; have hy2 : G < w2.heap.size := (by have := hb2.size; omega)))
                go_meet
                exact ⟨by first | (rw [← hRR.out]; simp; done) | (rw [← hRR.out]; simp [B0.out]; done) | (have B1 := B0.out; rw [← hRR.out]; simp_all; done) | (rw [← hRR.out]; simp_all; done), by assumption⟩
              · have n5 : (k != 5) = true := by simpa using k5
                have m5 : (k == 5) = false := by simpa using k5
                clear k5
                by_cases b0 : b.size = 0
                · have qc : (b.toList != ([] : List UInt8)) = false := by rw [bne, q]; simpa using b0
                  have qe : b.toList.isEmpty = true := by have h := qc; revert h; cases b.toList <;> simp
                  have B0 : Hid (b.size = 0) := b0
                  clear b0 q
                  go_wp2_with (first
                      | (go_at_call 45; refine (HA.out _).mono ?_; rintro e w1 ⟨rfl, rfl⟩)
                      | (go_at_call 20; refine (HS.out _).mono ?_; rintro e w2 ⟨rfl, hb2⟩; obtain ⟨hc2, hf2⟩ := bcellF hb2; have hB2 : Below A.heap.size A w2 := keepB (by assumption) (Nat.le_refl _) hb2; have hy2 : G < w2.heap.size := (by have := hb2.size; omega)))
                  go_meet
                  exact ⟨by first | (rw [← hRR.out]; simp; done) | (rw [← hRR.out]; simp [B0.out]; done) | (have B1 := B0.out; rw [← hRR.out]; simp_all; done) | (rw [← hRR.out]; simp_all; done), by assumption⟩
                · have qc : (b.toList != ([] : List UInt8)) = true := by rw [bne, q]; simpa using b0
                  have qe : b.toList.isEmpty = false := by have h := qc; revert h; cases b.toList <;> simp
                  have B0 : Hid (¬ b.size = 0) := b0
                  clear b0 q
                  go_wp2_with (first
                      | (go_at_call 45; refine (HA.out _).mono ?_; rintro e w1 ⟨rfl, rfl⟩)
                      | (go_at_call 20; refine (HS.out _).mono ?_; rintro e w2 ⟨rfl, hb2⟩; obtain ⟨hc2, hf2⟩ := bcellF hb2; have hB2 : Below A.heap.size A w2 := keepB (by assumption) (Nat.le_refl _) hb2; have hy2 : G < w2.heap.size := (by have := hb2.size; omega)))
                  go_meet
                  exact ⟨by first | (rw [← hRR.out]; simp; done) | (rw [← hRR.out]; simp [B0.out]; done) | (have B1 := B0.out; rw [← hRR.out]; simp_all; done) | (rw [← hRR.out]; simp_all; done), by assumption⟩
            · have p0 : (0 : Int) < (n : Int) := by omega
              go_wp2_with (first
                  | (go_at_call 45; refine (HA.out _).mono ?_; rintro e w1 ⟨rfl, rfl⟩)
                  | (go_at_call 20; refine (HS.out _).mono ?_; rintro e w2 ⟨rfl, hb2⟩; obtain ⟨hc2, hf2⟩ := bcellF hb2; have hB2 : Below A.heap.size A w2 := keepB (by assumption) (Nat.le_refl _) hb2; have hy2 : G < w2.heap.size := (by have := hb2.size; omega)))
              go_meet
              exact ⟨by first | (rw [← hRR.out]; simp; done) | (rw [← hRR.out]; simp [B0.out]; done) | (have B1 := B0.out; rw [← hRR.out]; simp_all; done) | (rw [← hRR.out]; simp_all; done), by assumption⟩
  case rest =>
    obtain ⟨rfl, hzz⟩ := hcut
    rename World => z
    have c0 := cellW hX.out 0 _ rfl z hzz
    have c1 := cellW hX.out 1 _ rfl z hzz
    have c2 := cellW hX.out 2 _ rfl z hzz
    have c3 := cellW hX.out 3 _ rfl z hzz
    have c4 := cellW hX.out 4 _ rfl z hzz
    have c5 := cellW hX.out 5 _ rfl z hzz
    have c6 := cellW hX.out 6 _ rfl z hzz
    have c7 := cellW hX.out 7 _ rfl z hzz
    have c8 := cellW hX.out 8 _ rfl z hzz
    have hGl : G < z.heap.size := Nat.lt_of_lt_of_le (Array.getElem?_eq_some_iff.1 hX.out).1 hzz.size
    clear hRR HA HS HNO hAA hSS hNN
    obtain ⟨QQ, hQQ⟩ : ∃ QQ, Hid ((RR && ((k == 2 || decide (n = 0)) && (k == 5 || decide (b.size = 0)))) = QQ) := ⟨_, show _ = _ from rfl⟩
    rw [hQQ.out]
    cases QQ with
    | false =>
      have hno : (RR && if k = 1 then t == 0 && (decide (n = 0) && decide (b.size = 0)) else if k = 2 then (TA && !(t == f)) && (WW && decide (b.size = 0)) else if k = 3 ∨ k = 4 then (TA && !(t == f)) && (decide (n = 0) && decide (b.size = 0)) else if k = 5 then (TA && !(t == f)) && (decide (n = 0) && (decide (1 ≤ b.size) && decide (b.size ≤ 20))) else false) = false := by
        have hq := hQQ.out
        cases RR with
        | false => rfl
        | true =>
          simp only [Bool.true_and] at hq ⊢
          by_cases k1 : k = 1
          · subst k1
            simp at hq ⊢
            intro h1 h2 h3
            exact hq h2 h3
          by_cases k2 : k = 2
          · subst k2
            simp at hq ⊢
            simp [hq]
          by_cases k3 : k = 3 ∨ k = 4
          · rw [if_neg k1, if_neg k2, if_pos k3]
            have n2 : (k == 2) = false := by simpa using k2
            have n5 : (k == 5) = false := by simp; omega
            rw [n2, n5] at hq
            simp at hq ⊢
            intro h1 h2 h3 h4
            exact hq h3 h4
          by_cases k5 : k = 5
          · subst k5
            simp at hq ⊢
            simp [hq]
          · simp [k1, k2, k3, k5]
      go_wp2
      go_ret
      exact ⟨ret_bool (hno.symm.trans hres.out), keepB hA0 (Nat.le_refl _) (by assumption)⟩
    | true =>
      have hq := hQQ.out
      simp only [Bool.and_eq_true, Bool.or_eq_true, decide_eq_true_eq, beq_iff_eq] at hq
      obtain ⟨hr1, hq2, hq5⟩ := hq
      subst hr1
      clear hQQ
      by_cases k1 : k = 1
      · subst k1
        have h0 : n = 0 := by omega
        have b0 : b.size = 0 := by omega
        clear hq2 hq5
        cases TA
        all_goals
          go_wp2_with (first
              | (go_at_call 45; refine (HT.out _).mono ?_; rintro e w3 ⟨rfl, rfl⟩))
          go_ret
          exact ⟨ret_bool (by rw [← hres.out]; simp [h0, b0]), keepB hA0 (Nat.le_refl _) (by assumption)⟩
      have m1 : (k == 1) = false := by simpa using k1
      by_cases k2 : k = 2
      · subst k2
        have b0 : b.size = 0 := by omega
        clear hq2 hq5
        cases TA with
        | false =>
          go_wp2_with (first
              | (go_at_call 45; refine (HT.out _).mono ?_; rintro e w3 ⟨rfl, rfl⟩))
          go_ret
          exact ⟨ret_bool (by rw [← hres.out]; simp [b0]), keepB hA0 (Nat.le_refl _) (by assumption)⟩
        | true =>
          by_cases tf : t = f
          · have qt : (t != f) = false := by simpa using tf
            have qu : (t == f) = true := by simpa using tf
            clear tf
            go_wp2_with (first
                | (go_at_call 45; refine (HT.out _).mono ?_; rintro e w3 ⟨rfl, rfl⟩))
            go_ret
            exact ⟨ret_bool (by rw [← hres.out]; simp [b0, qu]), keepB hA0 (Nat.le_refl _) (by assumption)⟩
          · have qt : (t != f) = true := by simpa using tf
            have qu : (t == f) = false := by simpa using tf
            clear tf
            go_wp2_with (first
                | (go_at_call 45; refine (HT.out _).mono ?_; rintro e w3 ⟨rfl, rfl⟩)
                | (go_at_call 46; refine (HW.out _ (keepB hA0 (Nat.le_refl _) (by assumption))).mono ?_; rintro e w5 ⟨rfl, hb5⟩; obtain ⟨hc5, hf5⟩ := bcellF hb5; have hB5 : Below A.heap.size A w5 := keepB (by assumption) (Nat.le_refl _) hb5))
            go_ret
            exact ⟨ret_bool (by rw [← hres.out]; simp [b0, qu]), keepB hA0 (Nat.le_refl _) (by assumption)⟩
      have m2 : (k == 2) = false := by simpa using k2
      by_cases k3 : k = 3
      · subst k3
        have h0 : n = 0 := by omega
        have b0 : b.size = 0 := by omega
        clear hq2 hq5
        cases TA with
        | false =>
          go_wp2_with (first
              | (go_at_call 45; refine (HT.out _).mono ?_; rintro e w3 ⟨rfl, rfl⟩))
          go_ret
          exact ⟨ret_bool (by rw [← hres.out]; simp [h0, b0]), keepB hA0 (Nat.le_refl _) (by assumption)⟩
        | true =>
          go_wp2_with (first
              | (go_at_call 45; refine (HT.out _).mono ?_; rintro e w3 ⟨rfl, rfl⟩))
          go_ret
          exact ⟨ret_bool (by rw [← hres.out]; simp [h0, b0, bne]), keepB hA0 (Nat.le_refl _) (by assumption)⟩
      have m3 : (k == 3) = false := by simpa using k3
      by_cases k4 : k = 4
      · subst k4
        have h0 : n = 0 := by omega
        have b0 : b.size = 0 := by omega
        clear hq2 hq5
        cases TA with
        | false =>
          go_wp2_with (first
              | (go_at_call 45; refine (HT.out _).mono ?_; rintro e w3 ⟨rfl, rfl⟩))
          go_ret
          exact ⟨ret_bool (by rw [← hres.out]; simp [h0, b0]), keepB hA0 (Nat.le_refl _) (by assumption)⟩
        | true =>
          go_wp2_with (first
              | (go_at_call 45; refine (HT.out _).mono ?_; rintro e w3 ⟨rfl, rfl⟩))
          go_ret
          exact ⟨ret_bool (by rw [← hres.out]; simp [h0, b0, bne]), keepB hA0 (Nat.le_refl _) (by assumption)⟩
      have m4 : (k == 4) = false := by simpa using k4
      by_cases k5 : k = 5
      · subst k5
        have h0 : n = 0 := by omega
        clear hq2 hq5
        cases TA with
        | false =>
          go_wp2_with (first
              | (go_at_call 45; refine (HT.out _).mono ?_; rintro e w3 ⟨rfl, rfl⟩))
          go_ret
          exact ⟨ret_bool (by rw [← hres.out]; simp [h0]), keepB hA0 (Nat.le_refl _) (by assumption)⟩
        | true =>
          by_cases tf : t = f
          · have qt : (t != f) = false := by simpa using tf
            have qu : (t == f) = true := by simpa using tf
            clear tf
            go_wp2_with (first
                | (go_at_call 45; refine (HT.out _).mono ?_; rintro e w3 ⟨rfl, rfl⟩))
            go_ret
            exact ⟨ret_bool (by rw [← hres.out]; simp [h0, qu]), keepB hA0 (Nat.le_refl _) (by assumption)⟩
          · have qt : (t != f) = true := by simpa using tf
            have qu : (t == f) = false := by simpa using tf
            clear tf
            by_cases b1 : 1 ≤ b.size
            · by_cases b2 : b.size ≤ 20
              all_goals
                go_wp2_with (first
                    | (go_at_call 45; refine (HT.out _).mono ?_; rintro e w3 ⟨rfl, rfl⟩))
                go_ret
                exact ⟨ret_bool (by rw [← hres.out]; first | (simp [h0, qu, b1, b2]; done) | (simp [h0, qu, b1, b2]; omega)), keepB hA0 (Nat.le_refl _) (by assumption)⟩
            · go_wp2_with (first
                  | (go_at_call 45; refine (HT.out _).mono ?_; rintro e w3 ⟨rfl, rfl⟩))
              go_ret
              exact ⟨ret_bool (by rw [← hres.out]; simp [h0, qu, b1]), keepB hA0 (Nat.le_refl _) (by assumption)⟩
      have m5 : (k == 5) = false := by simpa using k5
      cases TA
      all_goals
        go_wp2_with (first
            | (go_at_call 45; refine (HT.out _).mono ?_; rintro e w3 ⟨rfl, rfl⟩))
        go_ret
        exact ⟨ret_bool (by rw [← hres.out]; simp [k1, k2, k3, k4, k5]), keepB hA0 (Nat.le_refl _) (by assumption)⟩
end Go.Proofs.Ythmbfkppjijelaa
