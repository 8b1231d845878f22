/- THE WALK of the program's hearing of bytes, from label to label. -/
import Derived.Test.YtiaphaghjklhaaaHearS
import Derived.Test.YtiaphaghjklhaaaScope3
import Derived.WalkKit
import Derived.WalkSpells
import Derived.Outline
import Derived.Below
import Derived.Maps.AppendAt
namespace Go.Proofs.Ytiaphaghjklhaaa
open Go.RowKit
set_option linter.unusedVariables false
set_option linter.unusedSimpArgs false

def JH (i e d : Bool) (b t : ByteArray) (X0 : Wr) (w : World) (L : Nat) (l : Nat) (a : Act) (w' : World) : Prop :=
  ∃ (k : Nat) (v bv : Value) (ss : List ByteArray) (buf : List UInt8) (x7 x8 : Value) (bo : Bool) (x : Nat → Value),
    a = { tmps := #[.agg #[.bool i, .bool e, .bool d, .string b], .string t, .pointer (some ⟨w.heap.size, 0, none⟩), undef, .pointer (some ⟨w.heap.size + 1, 0, none⟩), .slice none 0 0, v, x7, x8, bv, .pointer (some ⟨L, 0, none⟩), .bool bo, x 12, x 13, x 14, x 15, x 16, x 17, x 18, x 19, x 20, x 21, x 22, x 23, x 24, x 25, x 26, x 27, x 28, x 29, x 30, x 31, x 32, x 33, x 34, x 35, x 36, x 37, x 38, x 39, x 40, x 41, x 42, x 43, x 44, x 45, x 46, x 47, x 48, x 49, x 50, x 51, x 52, x 53, x 54, x 55, x 56, x 57, x 58, x 59, x 60, x 61, x 62, x 63, x 64, x 65, x 66, x 67, x 68, x 69, x 70, x 71, x 72, x 73, x 74, x 75, x 76, x 77, x 78, x 79, x 80, x 81, x 82, x 83, x 84, x 85, x 86, x 87, x 88, x 89, x 90, x 91], defers := [] } ∧
    Hid (WH t w L k v bv ss buf w') ∧ Hid (ss = (X0.feeds (t.data.toList.take k)).map bytesOf) ∧ Hid (StH X0 t l k buf bo x7)
theorem JH_mk {i e d : Bool} {b t : ByteArray} {X0 : Wr} {w : World} {L l : Nat} {tmps : Array Value} {w' : World} {k : Nat} {v bv : Value} {ss : List ByteArray} {buf : List UInt8} {x7 x8 : Value} {bo : Bool}
    (h : tmps = #[.agg #[.bool i, .bool e, .bool d, .string b], .string t, .pointer (some ⟨w.heap.size, 0, none⟩), undef, .pointer (some ⟨w.heap.size + 1, 0, none⟩), .slice none 0 0, v, x7, x8, bv, .pointer (some ⟨L, 0, none⟩), .bool bo, tmps.getD 12 undef, tmps.getD 13 undef, tmps.getD 14 undef, tmps.getD 15 undef, tmps.getD 16 undef, tmps.getD 17 undef, tmps.getD 18 undef, tmps.getD 19 undef, tmps.getD 20 undef, tmps.getD 21 undef, tmps.getD 22 undef, tmps.getD 23 undef, tmps.getD 24 undef, tmps.getD 25 undef, tmps.getD 26 undef, tmps.getD 27 undef, tmps.getD 28 undef, tmps.getD 29 undef, tmps.getD 30 undef, tmps.getD 31 undef, tmps.getD 32 undef, tmps.getD 33 undef, tmps.getD 34 undef, tmps.getD 35 undef, tmps.getD 36 undef, tmps.getD 37 undef, tmps.getD 38 undef, tmps.getD 39 undef, tmps.getD 40 undef, tmps.getD 41 undef, tmps.getD 42 undef, tmps.getD 43 undef, tmps.getD 44 undef, tmps.getD 45 undef, tmps.getD 46 undef, tmps.getD 47 undef, tmps.getD 48 undef, tmps.getD 49 undef, tmps.getD 50 undef, tmps.getD 51 undef, tmps.getD 52 undef, tmps.getD 53 undef, tmps.getD 54 undef, tmps.getD 55 undef, tmps.getD 56 undef, tmps.getD 57 undef, tmps.getD 58 undef, tmps.getD 59 undef, tmps.getD 60 undef, tmps.getD 61 undef, tmps.getD 62 undef, tmps.getD 63 undef, tmps.getD 64 undef, tmps.getD 65 undef, tmps.getD 66 undef, tmps.getD 67 undef, tmps.getD 68 undef, tmps.getD 69 undef, tmps.getD 70 undef, tmps.getD 71 undef, tmps.getD 72 undef, tmps.getD 73 undef, tmps.getD 74 undef, tmps.getD 75 undef, tmps.getD 76 undef, tmps.getD 77 undef, tmps.getD 78 undef, tmps.getD 79 undef, tmps.getD 80 undef, tmps.getD 81 undef, tmps.getD 82 undef, tmps.getD 83 undef, tmps.getD 84 undef, tmps.getD 85 undef, tmps.getD 86 undef, tmps.getD 87 undef, tmps.getD 88 undef, tmps.getD 89 undef, tmps.getD 90 undef, tmps.getD 91 undef])
    (h1 : WH t w L k v bv ss buf w') (h2 : ss = (X0.feeds (t.data.toList.take k)).map bytesOf) (h3 : StH X0 t l k buf bo x7) : JH i e d b t X0 w L l { tmps := tmps, defers := [] } w' :=
  ⟨k, v, bv, ss, buf, x7, x8, bo, fun n => tmps.getD n undef, congrArg (fun z => ({ tmps := z, defers := [] } : Act)) h, h1, h2, h3⟩
def muH (t : ByteArray) (L : Nat) (l : Nat) (_ : Act) (w : World) : Nat := 4 * (t.size - kOf L w) + rankH l
theorem StH_cases {X0 : Wr} {t : ByteArray} {l k : Nat} {buf : List UInt8} {bo : Bool} {x7 : Value} (h : StH X0 t l k buf bo x7) : l = 0 ∨ l = 1 ∨ l = 2 ∨ l = 3 ∨ l = 4 ∨ l = 5 := by
  unfold StH at h
  split at h
  · simp
  · simp
  · simp
  · simp
  · simp
  · simp
  · exact h.elim
theorem mu_next {t : ByteArray} {L l l' k : Nat} {a a' : Act} {w' w'' : World} (h1 : Crs L t k w') (h2 : Crs L t (k + 1) w'') (hk : k < t.size) : muH t L l' a' w'' < muH t L l a w' := by
  unfold muH
  rw [kOf_crs h1, kOf_crs h2]
  have : rankH l' ≤ 1 := by unfold rankH; split <;> omega
  omega
theorem right_eqH (i e d : Bool) (b : ByteArray) : (wrOf i e d b).right = if !i || d then b.data.toList.isEmpty && (i || !e && !d) else decide (b.data.toList.length ≤ 62) := rfl
theorem right_bad {i e : Bool} {b : ByteArray} (h : (if !i || true then b.data.toList.isEmpty && (i || !e && !true) else decide (b.data.toList.length ≤ 62)) = true) : i = true ∧ b.data.toList = [] := by
  cases i <;> cases e <;> simp_all
theorem right_esc {i : Bool} {b : ByteArray} (h : (if !i || false then b.data.toList.isEmpty && (i || !true && !false) else decide (b.data.toList.length ≤ 62)) = true) : i = true := by
  cases i <;> simp_all
theorem right_out {b : ByteArray} (h : (if !false || false then b.data.toList.isEmpty && (false || !false && !false) else decide (b.data.toList.length ≤ 62)) = true) : b.data.toList = [] := by
  simpa using h
theorem mu_far {t : ByteArray} {L l l' k j : Nat} {a a' : Act} {w' w'' : World} (h1 : Crs L t k w') (h2 : Crs L t (j + 1) w'') (hj : k ≤ j) (hk : j < t.size) : muH t L l' a' w'' < muH t L l a w' := by
  unfold muH
  rw [kOf_crs h1, kOf_crs h2]
  have : rankH l' ≤ 1 := by unfold rankH; split <;> omega
  omega
theorem notF (c : UInt8) : ((c.toNat : Int) != 126) = decide (c ≠ 126) := by rw [bne, is126, decide_not]
theorem mu_put {t : ByteArray} {L l' k : Nat} {a a' : Act} {w' w'' : World} (h1 : Crs L t k w') (h2 : Crs L t k w'') (hl : rankH l' = 0) : muH t L l' a' w'' < muH t L 5 a w' := by
  unfold muH
  rw [kOf_crs h1, kOf_crs h2, hl]
  have : rankH 5 = 1 := rfl
  omega
theorem feed_at (X0 : Wr) (t : ByteArray) (k : Nat) (h : k < t.size) {x : Wr} (hx : X0.feed (t.data.toList.take k) = x) : X0.feed (t.data.toList.take (k + 1)) = x.next t[k] := by rw [take_snoc t k h, Wr.feed_snoc, hx]
theorem feeds_at (X0 : Wr) (t : ByteArray) (k : Nat) (h : k < t.size) {x : Wr} (hx : X0.feed (t.data.toList.take k) = x) {ss : List ByteArray} (hs : ss = (X0.feeds (t.data.toList.take k)).map bytesOf) : ss ++ (x.hears t[k]).map bytesOf = (X0.feeds (t.data.toList.take (k + 1))).map bytesOf := by rw [take_snoc t k h, Wr.feeds_snoc, hx, List.map_append, hs]
theorem hears_not {x : Wr} {c : UInt8} (h : c ≠ 126) : (x.hears c).map bytesOf = [] := by unfold Wr.hears; rw [if_neg (fun q => h q.1)]; rfl
theorem ss_len {X0 : Wr} {t : ByteArray} {k : Nat} {ss : List ByteArray} (h : ss = (X0.feeds (t.data.toList.take k)).map bytesOf) (hk : k ≤ 8000) : ss.length ≤ 8000 := by
  rw [h, List.length_map]
  have h1 := feeds_length (t.data.toList.take k) X0
  have h2 := List.length_take_le k t.data.toList
  omega
theorem buf_len {X0 : Wr} (hr : X0.right = true) {l : List UInt8} {i e d : Bool} {buf : List UInt8} (h : X0.feed l = ⟨i, e, d, buf⟩) : buf.length ≤ 62 := by
  have := Wr.feed_right l X0 hr
  rw [h] at this
  unfold Wr.right at this
  split at this
  · simp only [Bool.and_eq_true, List.isEmpty_iff] at this
    rw [this.1]; simp
  · simpa using this
theorem info5h : (Try.prog.info? 5).map (fun i => (i.zero, i.size, i.bytes)) = some (some (.int .u8 0), 1, 1) := by kernel_rfl
/-- what is told at the end -/
def PH (X0 : Wr) (t : ByteArray) (w : World) (x : Ending) (w' : World) : Prop := ∃ v, x = .returned (.tuple #[wrA (X0.feed t.data.toList), v]) ∧ OwnS w' w.heap.size v ((X0.feeds t.data.toList).map bytesOf) ∧ Below w.heap.size w w'
theorem OwnS.monoH {w : World} {base B : Nat} {v : Value} {ss : List ByteArray} (h : OwnS w base v ss) (hB : B ≤ base) : OwnS w B v ss := by
  refine ⟨h.1, h.2.imp id ?_⟩
  rintro ⟨g, cap, cur, e1, e2, e3⟩
  exact ⟨g, cap, cur, e1, Nat.le_trans hB e2, e3⟩
theorem WH.cells {t : ByteArray} {w : World} {L k : Nat} {v bv : Value} {ss : List ByteArray} {buf : List UInt8} {w' : World} (h : WH t w L k v bv ss buf w') : w'.cell? ⟨w.heap.size + 1, 0, none⟩ = some (.bool false) ∧ w'.cell? ⟨w.heap.size + 1, 1, none⟩ = some (.bool false) ∧ w'.cell? ⟨w.heap.size + 1, 2, none⟩ = some (.bool false) ∧ w'.cell? ⟨w.heap.size + 1, 3, none⟩ = some (.string ⟨#[]⟩) ∧ ∀ o, w'.frozen? ⟨w.heap.size + 1, o, none⟩ = false := by
  have hr := h.res
  refine ⟨?_, ?_, ?_, ?_, fun o => ?_⟩
  · simp only [World.cell?, hr]; rfl
  · simp only [World.cell?, hr]; rfl
  · simp only [World.cell?, hr]; rfl
  · simp only [World.cell?, hr]; rfl
  · simp [World.frozen?, hr]
/-- the answer's place is written, and nothing else: the end -/
theorem PH_end {X0 : Wr} {t : ByteArray} {w : World} {L : Nat} {v bv : Value} {ss : List ByteArray} {buf : List UInt8} {w' : World} {i e d : Bool} {b : ByteArray} (h : WH t w L t.size v bv ss buf w') (hs : ss = (X0.feeds (t.data.toList.take t.size)).map bytesOf) (hx : X0.feed (t.data.toList.take t.size) = ⟨i, e, d, b.data.toList⟩) :
    PH X0 t w (.returned (.tuple #[.agg #[.bool i, .bool e, .bool d, .string b], v])) ((((w'.setCell ⟨w.heap.size + 1, 0, none⟩ (.bool i)).setCell ⟨w.heap.size + 1, 1, none⟩ (.bool e)).setCell ⟨w.heap.size + 1, 2, none⟩ (.bool d)).setCell ⟨w.heap.size + 1, 3, none⟩ (.string b)) := by
  have et : t.data.toList.take t.size = t.data.toList := List.take_of_length_le (by rw [list_length]; exact Nat.le_refl _)
  rw [et] at hs hx
  refine ⟨v, ?_, ?_, (((h.bel.setCell (by simp) _).setCell (by simp) _).setCell (by simp) _).setCell (by simp) _⟩
  · rw [hx]; unfold wrA; rw [bytesOf_data]
  · rw [← hs]
    have hlt := h.lt
    exact (h.own.keptH fun g h1 h2 => by
      have hne : g ≠ w.heap.size + 1 := by omega
      rw [Below.heap_setCell _ _ _ _ hne, Below.heap_setCell _ _ _ _ hne, Below.heap_setCell _ _ _ _ hne, Below.heap_setCell _ _ _ _ hne]).monoH (by omega)
set_option maxRecDepth 100000 in
set_option maxHeartbeats 3200000 in
theorem hearBytes_any (i e d : Bool) (b t : ByteArray) (w : World) (hr : (wrOf i e d b).right = true) (hb : b.size ≤ 62) (ht : t.size ≤ 8000) :
    Calls Try.prog 66 #[.agg #[.bool i, .bool e, .bool d, .string b], .string t] w (PH (wrOf i e d b) t w) := by
  obtain ⟨bv, w1, hcv, hM, hb1, hz1, hob⟩ := OwnM.made (P := Try.prog) ((w.alloc (.cells #[.bool i, .bool e, .bool d, .string b] 35)).alloc (.cells #[.bool false, .bool false, .bool false, .string ⟨#[]⟩] 35)) 9 22 5 b (w.heap.size + 1 + 1) Try.underlying9 Try.underlying22 Try.underlying5 (by simp) (by unfold maxLen; omega)
  have hc1 : ∀ o, w1.cell? ⟨w.heap.size, o, none⟩ = ((w.alloc (.cells #[.bool i, .bool e, .bool d, .string b] 35)).alloc (.cells #[.bool false, .bool false, .bool false, .string ⟨#[]⟩] 35)).cell? ⟨w.heap.size, o, none⟩ := fun o => hb1.cell (p := ⟨w.heap.size, o, none⟩) (by simp; omega)
  have hz1' : w1.heap.size = w.heap.size + 1 + 1 + 1 := by simpa using hz1
  have hzl : w.heap.size < w1.heap.size := by omega
  have HW0 : Hid (WH t w w1.heap.size 0 (.slice none 0 0) bv [] b.data.toList (w1.alloc (.cells #[.string t, .int .i64 0] 103))) := by
    refine ⟨Nat.zero_le _, heap_alloc_new _ _, World.ownsRow_nil _ _ _ _, hM.alloc _, ?_, ?_, by omega, by simp⟩
    · rw [heap_alloc_old _ _ (by omega), hb1.block (w.heap.size + 1) (by simp)]
      have := heap_alloc_new (w.alloc (.cells #[.bool i, .bool e, .bool d, .string b] 35)) (.cells #[.bool false, .bool false, .bool false, .string ⟨#[]⟩] 35)
      simpa using this
    · have : Below w.heap.size w w1 := (((Below.refl w.heap.size w).alloc (Nat.le_refl _) _).alloc (by simp) _).trans (hb1.mono (by simp <;> omega))
      exact this.alloc this.size _
  clear hM hb1 hob hz1 hz1'
  have HRT : Hid _ := hr
  obtain ⟨X0, hX0⟩ : ∃ X0, Hid (wrOf i e d b = X0) := ⟨_, show _ = _ from rfl⟩
  rw [hX0.out] at HRT ⊢
  clear hr
  go_enter Try.func66, Try.ntmps66
  go_wp2
  refine wp_scope_labels (JH i e d b t X0 w w1.heap.size) (muH t w1.heap.size) ?_ ?_
  · have et0 : t.data.toList.take 0 = [] := rfl
    have hx0 := hX0.out
    have hrt := HRT.out
    rw [← hx0, right_eqH] at hrt
    have HSS0 : Hid (([] : List ByteArray) = (X0.feeds (t.data.toList.take 0)).map bytesOf) := rfl
    have HF0 : Hid (X0.feed (t.data.toList.take 0) = ⟨i, e, d, b.data.toList⟩) := hx0.symm
    obtain ⟨pb, cb, hpb⟩ := HW0.out.ownM.shape
    subst hpb
    clear hx0
    cases d with
    | true =>
      obtain ⟨rfl, hb0⟩ : i = true ∧ b.data.toList = [] := right_bad hrt
      have HF1 : Hid (X0.feed (t.data.toList.take 0) = ⟨true, e, true, []⟩) := show _ = _ by rw [HF0.out, hb0]
      clear hrt hb0 HF0
      cases e with
      | true =>
        go_wp2
        go_step3
        exact JH_mk rfl HW0.out HSS0.out HF1.out
      | false =>
        go_wp2
        go_step3
        exact JH_mk rfl HW0.out HSS0.out HF1.out
    | false =>
      cases e with
      | true =>
        obtain rfl : i = true := right_esc hrt
        clear hrt
        go_wp2
        go_step3
        exact JH_mk rfl HW0.out HSS0.out ⟨HF0.out, rfl⟩
      | false =>
        cases i with
        | true =>
          clear hrt
          go_wp2
          go_step3
          exact JH_mk rfl HW0.out HSS0.out ⟨HF0.out, rfl⟩
        | false =>
          have hb0 : b.data.toList = [] := right_out hrt
          have HSt : Hid (X0.feed (t.data.toList.take 0) = ⟨false, false, false, []⟩) := show _ = _ by rw [HF0.out, hb0]
          clear hrt HF0 hb0
          go_wp2
          go_step3
          obtain ⟨k, hk0⟩ : ∃ k : Nat, Hid (k = 0) := ⟨0, rfl⟩
          have HW : Hid (WH t w w1.heap.size k (.slice none 0 0) (.slice pb b.data.toList.length cb) [] b.data.toList (w1.alloc (.cells #[.string t, .int .i64 0] 103))) := show WH _ _ _ _ _ _ _ _ _ by rw [hk0.out]; exact HW0.out
          have HSS : Hid (([] : List ByteArray) = (X0.feeds (t.data.toList.take k)).map bytesOf) := show _ = _ by rw [hk0.out]; exact HSS0.out
          rw [← hk0.out] at HSt
          have hk := HW.out.le
          by_cases hend : k = t.size
          · subst hend
            go_wp2_with (go_at_call 97; refine (next_end w1.heap.size t _ ht HW.out.crs).mono ?_; rintro e2 w2 ⟨rfl, hc2, hj2⟩; have HW2 : Hid _ := HW.out.next t.size (Nat.le_refl _) hc2 hj2; obtain ⟨r0, r1, r2, r3, rf⟩ := HW2.out.cells)
            rw [jumps_ret]
            exact bodyPost_ret (v := .tuple #[.agg #[.bool false, .bool false, .bool false, .string ⟨#[]⟩], (.slice none 0 0)]) (by simp [results, Try.results66, go_sem, r0, r1, r2, r3]) rfl (PH_end HW2.out HSS.out HSt.out)
          · have hlt : k < t.size := by omega
            have HF : Hid _ := feed_at X0 t k hlt HSt.out
            have HFS : Hid _ := feeds_at X0 t k hlt HSt.out HSS.out
            have n126 := notF t[k]
            by_cases h6 : t[k] = 126
            · simp only [h6, ne_eq, not_true_eq_false, decide_false] at n126
              have HFS1 : Hid (([] : List ByteArray) = (X0.feeds (t.data.toList.take (k + 1))).map bytesOf) := show _ = _ by rw [← HFS.out, h6]; simp [Wr.hears, Wr.heard]
              have HF1 : Hid (X0.feed (t.data.toList.take (k + 1)) = ⟨true, false, false, []⟩) := show _ = _ by rw [HF.out, h6]; rfl
              rw [← h6] at n126
              clear HF HFS h6 hend
              go_wp2_with (go_at_call 97; refine (next_more w1.heap.size t k _ ht hlt HW.out.crs).mono ?_; rintro e2 w2 ⟨rfl, hc2, hj2⟩; have HW2 : Hid _ := HW.out.next (k + 1) hlt hc2 hj2)
              have HWc : Hid _ := HW2.out.clear
              go_step3
              go_wp2
              go_step3
              have hk1 := HWc.out.le
              by_cases hend1 : k + 1 = t.size
              · have HWe : Hid (WH t w w1.heap.size t.size (.slice none 0 0) (.slice none 0 0) ([] : List ByteArray) [] w2) := show WH _ _ _ _ _ _ _ _ _ by rw [← hend1]; exact HWc.out
                have HSe : Hid (([] : List ByteArray) = (X0.feeds (t.data.toList.take t.size)).map bytesOf) := show _ = _ by rw [← hend1]; exact HFS1.out
                have HFe : Hid (X0.feed (t.data.toList.take t.size) = ⟨true, false, false, []⟩) := show _ = _ by rw [← hend1]; exact HF1.out
                clear hend1
                go_wp2_with (go_at_call 97; refine (next_end w1.heap.size t _ ht HWe.out.crs).mono ?_; rintro e5 w5 ⟨rfl, hc5, hj5⟩; have HW5 : Hid _ := HWe.out.next t.size (Nat.le_refl _) hc5 hj5; have hcv := OwnM.conv (P := Try.prog) 22 9 Try.underlying22 Try.underlying5 Try.underlying9 HW5.out.ownM; obtain ⟨r0, r1, r2, r3, rf⟩ := HW5.out.cells)
                rw [jumps_ret]
                exact bodyPost_ret (v := .tuple #[.agg #[.bool true, .bool false, .bool false, .string (bytesOf [])], (.slice none 0 0)]) (by simp [results, Try.results66, go_sem, r0, r1, r2, r3]; rfl) rfl (PH_end HW5.out HSe.out (HFe.out.trans (by rw [bytesOf_list])))
              · have hlt1 : k + 1 < t.size := by omega
                have HF : Hid _ := feed_at X0 t (k + 1) hlt1 HF1.out
                have HFS : Hid _ := feeds_at X0 t (k + 1) hlt1 HF1.out HFS1.out
                have hsl : Hid (([] : List ByteArray).length ≤ 10000) := show _ ≤ _ by have := ss_len HFS1.out (by omega); omega
                have e126 := is126 t[k + 1]
                have e125 := is125 t[k + 1]
                by_cases h6 : t[k + 1] = 126
                · simp only [h6, decide_true] at e126
                  have HFS' : Hid (([] : List ByteArray) ++ heardS [] = (X0.feeds (t.data.toList.take (k + 1 + 1))).map bytesOf) := show _ = _ by rw [← HFS.out, h6, hears_heardS]
                  have HF' : Hid (X0.feed (t.data.toList.take (k + 1 + 1)) = ⟨true, false, false, []⟩) := show _ = _ by rw [HF.out, h6]; rfl
                  rw [← h6] at e126
                  clear HF HFS h6 e125
                  go_wp2_with (first | (go_at_call 97; refine (next_more w1.heap.size t (k + 1) _ ht hlt1 HWc.out.crs).mono ?_; rintro e5 w5 ⟨rfl, hc5, hj5⟩; have HW5 : Hid _ := HWc.out.next (k + 1 + 1) hlt1 hc5 hj5) | (go_at_call 98; refine (addHeard_any (w1.heap.size + 1) _ (.slice none 0 0) _ ([] : List ByteArray) [] _ (by simp) hsl.out HW5.out.size HW5.out.own HW5.out.ownM).mono ?_; rintro e3 w3 ⟨v3, rfl, ho3, hg3⟩; have HW3 : Hid _ := HW5.out.hear ho3 hg3))
                  go_step3
                  exact JH_mk rfl HW3.out HFS'.out HF'.out
                · simp only [h6, decide_false] at e126
                  have HFS' : Hid (([] : List ByteArray) = (X0.feeds (t.data.toList.take (k + 1 + 1))).map bytesOf) := show _ = _ by rw [← HFS.out, hears_not h6, List.append_nil]
                  by_cases h5 : t[k + 1] = 125
                  · simp only [h5, decide_true] at e125
                    have HF' : Hid (X0.feed (t.data.toList.take (k + 1 + 1)) = ⟨true, true, false, []⟩) := show _ = _ by rw [HF.out, h5]; rfl
                    rw [← h5] at e125
                    clear HF HFS h6 h5
                    go_wp2_with (go_at_call 97; refine (next_more w1.heap.size t (k + 1) _ ht hlt1 HWc.out.crs).mono ?_; rintro e5 w5 ⟨rfl, hc5, hj5⟩; have HW5 : Hid _ := HWc.out.next (k + 1 + 1) hlt1 hc5 hj5)
                    go_step3
                    exact JH_mk rfl HW5.out HFS'.out ⟨HF'.out, rfl⟩
                  · simp only [h5, decide_false] at e125
                    have HF' : Hid (X0.feed (t.data.toList.take (k + 1 + 1)) = ⟨true, false, false, [] ++ [t[k + 1]]⟩) := show _ = _ by
                      rw [HF.out]
                      unfold Wr.next
                      rw [if_neg h6, if_neg (by simp), if_neg (fun q => h5 q.1), if_neg (by simp)]
                      rfl
                    clear HF HFS h6 h5
                    obtain ⟨i5, hi5, hz50, hz51, hz52⟩ := info_parts info5h
                    go_wp2_with (go_at_call 97; refine (next_more w1.heap.size t (k + 1) _ ht hlt1 HWc.out.crs).mono ?_; rintro e5 w5 ⟨rfl, hc5, hj5⟩; have HW5 : Hid _ := HWc.out.next (k + 1 + 1) hlt1 hc5 hj5)
                    go_step3
                    go_wp2_with (at_builtin; refine wpList_append_M rfl (.tmp 63) (.tmp 65) 22 rfl (w.heap.size + 2) 5 i5 (.int .u8 0) Try.underlying22 hi5 hz50 hz51 hz52 rfl _ [] rfl (HW5.out.ownM.alloc _) ⟨w5.heap.size, 0, none⟩ 1 t[k + 1] rfl (cells_new w5 [_] _ 0 _ rfl) (by simp) (by have := HW5.out.lt; have := HW5.out.size; simp; omega) ?_; intro v4 w4 ho4 hg4 _; have HW4 : Hid _ := HW5.out.put ho4 hg4)
                    go_step3
                    exact JH_mk rfl HW4.out HFS'.out ⟨HF'.out, rfl⟩
            · simp only [ne_eq, h6, not_false_eq_true, decide_true] at n126
              have HFS' : Hid (([] : List ByteArray) = (X0.feeds (t.data.toList.take (k + 1))).map bytesOf) := show _ = _ by rw [← HFS.out, hears_not h6, List.append_nil]
              have HF' : Hid (X0.feed (t.data.toList.take (k + 1)) = ⟨false, false, false, []⟩) := show _ = _ by rw [HF.out]; unfold Wr.next; rw [if_neg h6, if_pos (by simp)]
              clear HF HFS h6
              go_wp2_with (go_at_call 97; refine (next_more w1.heap.size t k _ ht hlt HW.out.crs).mono ?_; rintro e2 w2 ⟨rfl, hc2, hj2⟩; have HW2 : Hid _ := HW.out.next (k + 1) hlt hc2 hj2)
              go_step3
              exact JH_mk rfl HW2.out HFS'.out HF'.out
  · clear hcv hc1 HW0
    generalize w1.heap.size = L at hzl ⊢
    rintro l a' w' hJ
    obtain ⟨k, v, bv, ss, buf, x7, x8, bo, x, rfl, HW, HSS, HST⟩ := hJ
    have hl := StH_cases HST.out
    rcases hl with rfl | rfl | rfl | rfl | rfl | rfl
    · refine ⟨_, rfl, ?_⟩
      have hk := HW.out.le
      have HSt : Hid (X0.feed (t.data.toList.take k) = ⟨true, bo, true, []⟩) := HST.out
      clear HST
      by_cases hend : k = t.size
      · subst hend
        go_wp2_with (go_at_call 97; refine (next_end L t _ ht HW.out.crs).mono ?_; rintro e2 w2 ⟨rfl, hc2, hj2⟩; have HW2 : Hid _ := HW.out.next t.size (Nat.le_refl _) hc2 hj2; obtain ⟨r0, r1, r2, r3, rf⟩ := HW2.out.cells)
        rw [jumps_ret]
        exact bodyPost_ret (v := .tuple #[.agg #[.bool true, .bool bo, .bool true, .string ⟨#[]⟩], v]) (by simp [results, Try.results66, go_sem, r0, r1, r2, r3]) rfl (PH_end HW2.out HSS.out HSt.out)
      · have hlt : k < t.size := by omega
        have HF : Hid _ := feed_at X0 t k hlt HSt.out
        have HFS : Hid _ := feeds_at X0 t k hlt HSt.out HSS.out
        have e126 := is126 t[k]
        by_cases h6 : t[k] = 126
        · simp only [h6, decide_true] at e126
          have HFS' : Hid (ss = (X0.feeds (t.data.toList.take (k + 1))).map bytesOf) := show _ = _ by rw [← HFS.out, h6]; simp [Wr.hears, Wr.heard]
          have HF' : Hid (X0.feed (t.data.toList.take (k + 1)) = ⟨true, false, false, []⟩) := show _ = _ by rw [HF.out, h6]; rfl
          rw [← h6] at e126
          clear HF HFS h6
          go_wp2_with (go_at_call 97; refine (next_more L t k _ ht hlt HW.out.crs).mono ?_; rintro e2 w2 ⟨rfl, hc2, hj2⟩; have HW2 : Hid _ := HW.out.next (k + 1) hlt hc2 hj2)
          go_step3
          exact ⟨JH_mk rfl HW2.out HFS'.out HF'.out, mu_next HW.out.crs HW2.out.crs hlt⟩
        · simp only [h6, decide_false] at e126
          have HFS' : Hid (ss = (X0.feeds (t.data.toList.take (k + 1))).map bytesOf) := show _ = _ by rw [← HFS.out, hears_not h6, List.append_nil]
          have HF' : Hid (X0.feed (t.data.toList.take (k + 1)) = ⟨true, bo, true, []⟩) := show _ = _ by rw [HF.out]; unfold Wr.next; rw [if_neg h6, if_pos (by simp)]
          clear HF HFS h6
          go_wp2_with (go_at_call 97; refine (next_more L t k _ ht hlt HW.out.crs).mono ?_; rintro e2 w2 ⟨rfl, hc2, hj2⟩; have HW2 : Hid _ := HW.out.next (k + 1) hlt hc2 hj2)
          go_step3
          exact ⟨JH_mk rfl HW2.out HFS'.out HF'.out, mu_next HW.out.crs HW2.out.crs hlt⟩
    · refine ⟨_, rfl, ?_⟩
      have hk := HW.out.le
      obtain ⟨hst, rfl⟩ : X0.feed (t.data.toList.take k) = ⟨true, true, false, buf⟩ ∧ bo = false := HST.out
      have HSt : Hid _ := hst
      clear hst HST
      by_cases hend : k = t.size
      · subst hend
        go_wp2_with (go_at_call 97; refine (next_end L t _ ht HW.out.crs).mono ?_; rintro e2 w2 ⟨rfl, hc2, hj2⟩; have HW2 : Hid _ := HW.out.next t.size (Nat.le_refl _) hc2 hj2; have hcv := OwnM.conv (P := Try.prog) 22 9 Try.underlying22 Try.underlying5 Try.underlying9 HW2.out.ownM; obtain ⟨r0, r1, r2, r3, rf⟩ := HW2.out.cells)
        rw [jumps_ret]
        exact bodyPost_ret (v := .tuple #[.agg #[.bool true, .bool true, .bool false, .string (bytesOf buf)], v]) (by simp [results, Try.results66, go_sem, r0, r1, r2, r3]; rfl) rfl (PH_end HW2.out HSS.out (HSt.out.trans (by rw [bytesOf_list])))
      · have hlt : k < t.size := by omega
        have hlen : Hid (buf.length ≤ 62) := buf_len HRT.out HSt.out
        have HF : Hid _ := feed_at X0 t k hlt HSt.out
        have HFS : Hid _ := feeds_at X0 t k hlt HSt.out HSS.out
        have e126 := is126 t[k]
        by_cases h6 : t[k] = 126
        · simp only [h6, decide_true] at e126
          have HFS' : Hid (ss = (X0.feeds (t.data.toList.take (k + 1))).map bytesOf) := show _ = _ by rw [← HFS.out, h6]; simp [Wr.hears, Wr.heard]
          have HF' : Hid (X0.feed (t.data.toList.take (k + 1)) = ⟨true, false, false, []⟩) := show _ = _ by rw [HF.out, h6]; rfl
          rw [← h6] at e126
          clear HF HFS h6
          go_wp2_with (go_at_call 97; refine (next_more L t k _ ht hlt HW.out.crs).mono ?_; rintro e2 w2 ⟨rfl, hc2, hj2⟩; have HW2 : Hid _ := HW.out.next (k + 1) hlt hc2 hj2)
          go_step3
          exact ⟨JH_mk rfl HW2.out HFS'.out HF'.out, mu_next HW.out.crs HW2.out.crs hlt⟩
        · simp only [h6, decide_false] at e126
          have HFS' : Hid (ss = (X0.feeds (t.data.toList.take (k + 1))).map bytesOf) := show _ = _ by rw [← HFS.out, hears_not h6, List.append_nil]
          have e32 := xor32 t[k]
          have HF' : Hid (X0.feed (t.data.toList.take (k + 1)) = if buf.length = 62 then ⟨true, false, true, []⟩ else ⟨true, false, false, buf ++ [t[k] ^^^ 32]⟩) := show _ = _ by
            rw [HF.out]
            have hl2 := hlen.out
            unfold Wr.next
            rw [if_neg h6, if_neg (by simp), if_neg (by simp)]
            by_cases q : buf.length = 62
            · rw [if_pos q, if_pos (by simp only; omega)]
            · rw [if_neg q, if_neg (by simp only; omega)]; rfl
          clear HF HFS h6
          go_wp2_with (go_at_call 97; refine (next_more L t k _ ht hlt HW.out.crs).mono ?_; rintro e2 w2 ⟨rfl, hc2, hj2⟩; have HW2 : Hid _ := HW.out.next (k + 1) hlt hc2 hj2)
          go_step3
          exact ⟨JH_mk rfl HW2.out HFS'.out ⟨_, rfl, rfl, hlen.out, HF'.out⟩, mu_next HW.out.crs HW2.out.crs hlt⟩
    · refine ⟨_, rfl, ?_⟩
      have hk := HW.out.le
      obtain ⟨hst, rfl⟩ : X0.feed (t.data.toList.take k) = ⟨true, false, false, buf⟩ ∧ bo = false := HST.out
      have HSt : Hid _ := hst
      clear hst HST
      by_cases hend : k = t.size
      · subst hend
        go_wp2_with (go_at_call 97; refine (next_end L t _ ht HW.out.crs).mono ?_; rintro e2 w2 ⟨rfl, hc2, hj2⟩; have HW2 : Hid _ := HW.out.next t.size (Nat.le_refl _) hc2 hj2; have hcv := OwnM.conv (P := Try.prog) 22 9 Try.underlying22 Try.underlying5 Try.underlying9 HW2.out.ownM; obtain ⟨r0, r1, r2, r3, rf⟩ := HW2.out.cells)
        rw [jumps_ret]
        exact bodyPost_ret (v := .tuple #[.agg #[.bool true, .bool false, .bool false, .string (bytesOf buf)], v]) (by simp [results, Try.results66, go_sem, r0, r1, r2, r3]; rfl) rfl (PH_end HW2.out HSS.out (HSt.out.trans (by rw [bytesOf_list])))
      · have hlt : k < t.size := by omega
        have hlen : Hid (buf.length ≤ 62) := buf_len HRT.out HSt.out
        have HF : Hid _ := feed_at X0 t k hlt HSt.out
        have HFS : Hid _ := feeds_at X0 t k hlt HSt.out HSS.out
        have hsl : Hid (ss.length ≤ 10000) := show _ ≤ _ by have := ss_len HSS.out (by omega); omega
        have e126 := is126 t[k]
        have e125 := is125 t[k]
        obtain ⟨pb, cb, rfl⟩ := HW.out.ownM.shape
        by_cases h6 : t[k] = 126
        · simp only [h6, decide_true] at e126
          have HFS' : Hid (ss ++ heardS buf = (X0.feeds (t.data.toList.take (k + 1))).map bytesOf) := show _ = _ by rw [← HFS.out, h6, hears_heardS]
          have HF' : Hid (X0.feed (t.data.toList.take (k + 1)) = ⟨true, false, false, []⟩) := show _ = _ by rw [HF.out, h6]; rfl
          rw [← h6] at e126
          clear HF HFS h6 e125
          go_wp2_with (first | (go_at_call 97; refine (next_more L t k _ ht hlt HW.out.crs).mono ?_; rintro e2 w2 ⟨rfl, hc2, hj2⟩; have HW2 : Hid _ := HW.out.next (k + 1) hlt hc2 hj2) | (go_at_call 98; refine (addHeard_any (L + 1) _ v _ ss buf _ (by have := hlen.out; omega) hsl.out HW2.out.size HW2.out.own HW2.out.ownM).mono ?_; rintro e3 w3 ⟨v3, rfl, ho3, hg3⟩; have HW3 : Hid _ := HW2.out.hear ho3 hg3))
          go_step3
          exact ⟨JH_mk rfl HW3.out HFS'.out HF'.out, mu_next HW.out.crs HW3.out.crs hlt⟩
        · simp only [h6, decide_false] at e126
          have HFS' : Hid (ss = (X0.feeds (t.data.toList.take (k + 1))).map bytesOf) := show _ = _ by rw [← HFS.out, hears_not h6, List.append_nil]
          by_cases h5 : t[k] = 125
          · simp only [h5, decide_true] at e125
            have HF' : Hid (X0.feed (t.data.toList.take (k + 1)) = ⟨true, true, false, buf⟩) := show _ = _ by rw [HF.out, h5]; rfl
            rw [← h5] at e125
            clear HF HFS h6 h5
            go_wp2_with (go_at_call 97; refine (next_more L t k _ ht hlt HW.out.crs).mono ?_; rintro e2 w2 ⟨rfl, hc2, hj2⟩; have HW2 : Hid _ := HW.out.next (k + 1) hlt hc2 hj2)
            go_step3
            exact ⟨JH_mk rfl HW2.out HFS'.out ⟨HF'.out, rfl⟩, mu_next HW.out.crs HW2.out.crs hlt⟩
          · simp only [h5, decide_false] at e125
            have HF' : Hid (X0.feed (t.data.toList.take (k + 1)) = if buf.length = 62 then ⟨true, false, true, []⟩ else ⟨true, false, false, buf ++ [t[k]]⟩) := show _ = _ by
              rw [HF.out]
              have hl2 := hlen.out
              unfold Wr.next
              rw [if_neg h6, if_neg (by simp), if_neg (fun q => h5 q.1)]
              by_cases q : buf.length = 62
              · rw [if_pos q, if_pos (by simp only; omega)]
              · rw [if_neg q, if_neg (by simp only; omega)]; rfl
            clear HF HFS h6 h5
            obtain ⟨i5, hi5, hz50, hz51, hz52⟩ := info_parts info5h
            by_cases q : buf.length = 62
            · have q1 : ((buf.length : Int) == 62) = true := by simp; omega
              rw [if_pos q] at HF'
              clear q
              go_wp2_with (go_at_call 97; refine (next_more L t k _ ht hlt HW.out.crs).mono ?_; rintro e2 w2 ⟨rfl, hc2, hj2⟩; have HW2 : Hid _ := HW.out.next (k + 1) hlt hc2 hj2)
              go_step3
              go_wp2
              go_step3
              exact ⟨JH_mk rfl HW2.out HFS'.out HF'.out, mu_next HW.out.crs HW2.out.crs hlt⟩
            · have q1 : ((buf.length : Int) == 62) = false := by simp; omega
              rw [if_neg q] at HF'
              clear q
              go_wp2_with (go_at_call 97; refine (next_more L t k _ ht hlt HW.out.crs).mono ?_; rintro e2 w2 ⟨rfl, hc2, hj2⟩; have HW2 : Hid _ := HW.out.next (k + 1) hlt hc2 hj2)
              go_step3
              go_wp2_with (at_builtin; refine wpList_append_M rfl (.tmp 63) (.tmp 65) 22 rfl (w.heap.size + 2) 5 i5 (.int .u8 0) Try.underlying22 hi5 hz50 hz51 hz52 rfl _ buf rfl (HW2.out.ownM.alloc _) ⟨w2.heap.size, 0, none⟩ 1 t[k] rfl (cells_new w2 [_] _ 0 _ rfl) (by have := hlen.out; omega) (by have := HW2.out.lt; have := HW2.out.size; simp; omega) ?_; intro v4 w4 ho4 hg4 _; have HW4 : Hid _ := HW2.out.put ho4 hg4)
              go_step3
              exact ⟨JH_mk rfl HW4.out HFS'.out ⟨HF'.out, rfl⟩, mu_next HW.out.crs HW4.out.crs hlt⟩
    · refine ⟨_, rfl, ?_⟩
      have hk := HW.out.le
      have HSt : Hid (X0.feed (t.data.toList.take k) = ⟨false, false, false, []⟩) := HST.out
      clear HST
      by_cases hend : k = t.size
      · subst hend
        go_wp2_with (go_at_call 97; refine (next_end L t _ ht HW.out.crs).mono ?_; rintro e2 w2 ⟨rfl, hc2, hj2⟩; have HW2 : Hid _ := HW.out.next t.size (Nat.le_refl _) hc2 hj2; obtain ⟨r0, r1, r2, r3, rf⟩ := HW2.out.cells)
        rw [jumps_ret]
        exact bodyPost_ret (v := .tuple #[.agg #[.bool false, .bool false, .bool false, .string ⟨#[]⟩], v]) (by simp [results, Try.results66, go_sem, r0, r1, r2, r3]) rfl (PH_end HW2.out HSS.out HSt.out)
      · have hlt : k < t.size := by omega
        have HF : Hid _ := feed_at X0 t k hlt HSt.out
        have HFS : Hid _ := feeds_at X0 t k hlt HSt.out HSS.out
        have n126 := notF t[k]
        by_cases h6 : t[k] = 126
        · simp only [h6, ne_eq, not_true_eq_false, decide_false] at n126
          have HFS1 : Hid (ss = (X0.feeds (t.data.toList.take (k + 1))).map bytesOf) := show _ = _ by rw [← HFS.out, h6]; simp [Wr.hears, Wr.heard]
          have HF1 : Hid (X0.feed (t.data.toList.take (k + 1)) = ⟨true, false, false, []⟩) := show _ = _ by rw [HF.out, h6]; rfl
          rw [← h6] at n126
          clear HF HFS h6 hend
          go_wp2_with (go_at_call 97; refine (next_more L t k _ ht hlt HW.out.crs).mono ?_; rintro e2 w2 ⟨rfl, hc2, hj2⟩; have HW2 : Hid _ := HW.out.next (k + 1) hlt hc2 hj2)
          have HWc : Hid _ := HW2.out.clear
          go_step3
          go_wp2
          go_step3
          have hk1 := HWc.out.le
          by_cases hend1 : k + 1 = t.size
          · have HWe : Hid (WH t w L t.size v (.slice none 0 0) ss [] w2) := show WH _ _ _ _ _ _ _ _ _ by rw [← hend1]; exact HWc.out
            have HSe : Hid (ss = (X0.feeds (t.data.toList.take t.size)).map bytesOf) := show _ = _ by rw [← hend1]; exact HFS1.out
            have HFe : Hid (X0.feed (t.data.toList.take t.size) = ⟨true, false, false, []⟩) := show _ = _ by rw [← hend1]; exact HF1.out
            clear hend1
            go_wp2_with (go_at_call 97; refine (next_end L t _ ht HWe.out.crs).mono ?_; rintro e5 w5 ⟨rfl, hc5, hj5⟩; have HW5 : Hid _ := HWe.out.next t.size (Nat.le_refl _) hc5 hj5; have hcv := OwnM.conv (P := Try.prog) 22 9 Try.underlying22 Try.underlying5 Try.underlying9 HW5.out.ownM; obtain ⟨r0, r1, r2, r3, rf⟩ := HW5.out.cells)
            rw [jumps_ret]
            exact bodyPost_ret (v := .tuple #[.agg #[.bool true, .bool false, .bool false, .string (bytesOf [])], v]) (by simp [results, Try.results66, go_sem, r0, r1, r2, r3]; rfl) rfl (PH_end HW5.out HSe.out (HFe.out.trans (by rw [bytesOf_list])))
          · have hlt1 : k + 1 < t.size := by omega
            have HF : Hid _ := feed_at X0 t (k + 1) hlt1 HF1.out
            have HFS : Hid _ := feeds_at X0 t (k + 1) hlt1 HF1.out HFS1.out
            have hsl : Hid (ss.length ≤ 10000) := show _ ≤ _ by have := ss_len HFS1.out (by omega); omega
            have e126 := is126 t[k + 1]
            have e125 := is125 t[k + 1]
            by_cases h6 : t[k + 1] = 126
            · simp only [h6, decide_true] at e126
              have HFS' : Hid (ss ++ heardS [] = (X0.feeds (t.data.toList.take (k + 1 + 1))).map bytesOf) := show _ = _ by rw [← HFS.out, h6, hears_heardS]
              have HF' : Hid (X0.feed (t.data.toList.take (k + 1 + 1)) = ⟨true, false, false, []⟩) := show _ = _ by rw [HF.out, h6]; rfl
              rw [← h6] at e126
              clear HF HFS h6 e125
              go_wp2_with (first | (go_at_call 97; refine (next_more L t (k + 1) _ ht hlt1 HWc.out.crs).mono ?_; rintro e5 w5 ⟨rfl, hc5, hj5⟩; have HW5 : Hid _ := HWc.out.next (k + 1 + 1) hlt1 hc5 hj5) | (go_at_call 98; refine (addHeard_any (L + 1) _ v _ ss [] _ (by simp) hsl.out HW5.out.size HW5.out.own HW5.out.ownM).mono ?_; rintro e3 w3 ⟨v3, rfl, ho3, hg3⟩; have HW3 : Hid _ := HW5.out.hear ho3 hg3))
              go_step3
              exact ⟨JH_mk rfl HW3.out HFS'.out HF'.out, mu_far HW.out.crs HW3.out.crs (by omega) hlt1⟩
            · simp only [h6, decide_false] at e126
              have HFS' : Hid (ss = (X0.feeds (t.data.toList.take (k + 1 + 1))).map bytesOf) := show _ = _ by rw [← HFS.out, hears_not h6, List.append_nil]
              by_cases h5 : t[k + 1] = 125
              · simp only [h5, decide_true] at e125
                have HF' : Hid (X0.feed (t.data.toList.take (k + 1 + 1)) = ⟨true, true, false, []⟩) := show _ = _ by rw [HF.out, h5]; rfl
                rw [← h5] at e125
                clear HF HFS h6 h5
                go_wp2_with (go_at_call 97; refine (next_more L t (k + 1) _ ht hlt1 HWc.out.crs).mono ?_; rintro e5 w5 ⟨rfl, hc5, hj5⟩; have HW5 : Hid _ := HWc.out.next (k + 1 + 1) hlt1 hc5 hj5)
                go_step3
                exact ⟨JH_mk rfl HW5.out HFS'.out ⟨HF'.out, rfl⟩, mu_far HW.out.crs HW5.out.crs (by omega) hlt1⟩
              · simp only [h5, decide_false] at e125
                have HF' : Hid (X0.feed (t.data.toList.take (k + 1 + 1)) = ⟨true, false, false, [] ++ [t[k + 1]]⟩) := show _ = _ by
                  rw [HF.out]
                  unfold Wr.next
                  rw [if_neg h6, if_neg (by simp), if_neg (fun q => h5 q.1), if_neg (by simp)]
                  rfl
                clear HF HFS h6 h5
                obtain ⟨i5, hi5, hz50, hz51, hz52⟩ := info_parts info5h
                go_wp2_with (go_at_call 97; refine (next_more L t (k + 1) _ ht hlt1 HWc.out.crs).mono ?_; rintro e5 w5 ⟨rfl, hc5, hj5⟩; have HW5 : Hid _ := HWc.out.next (k + 1 + 1) hlt1 hc5 hj5)
                go_step3
                go_wp2_with (at_builtin; refine wpList_append_M rfl (.tmp 63) (.tmp 65) 22 rfl (w.heap.size + 2) 5 i5 (.int .u8 0) Try.underlying22 hi5 hz50 hz51 hz52 rfl _ [] rfl (HW5.out.ownM.alloc _) ⟨w5.heap.size, 0, none⟩ 1 t[k + 1] rfl (cells_new w5 [_] _ 0 _ rfl) (by simp) (by have := HW5.out.lt; have := HW5.out.size; simp; omega) ?_; intro v4 w4 ho4 hg4 _; have HW4 : Hid _ := HW5.out.put ho4 hg4)
                go_step3
                exact ⟨JH_mk rfl HW4.out HFS'.out ⟨HF'.out, rfl⟩, mu_far HW.out.crs HW4.out.crs (by omega) hlt1⟩
        · simp only [ne_eq, h6, not_false_eq_true, decide_true] at n126
          have HFS' : Hid (ss = (X0.feeds (t.data.toList.take (k + 1))).map bytesOf) := show _ = _ by rw [← HFS.out, hears_not h6, List.append_nil]
          have HF' : Hid (X0.feed (t.data.toList.take (k + 1)) = ⟨false, false, false, []⟩) := show _ = _ by rw [HF.out]; unfold Wr.next; rw [if_neg h6, if_pos (by simp)]
          clear HF HFS h6
          go_wp2_with (go_at_call 97; refine (next_more L t k _ ht hlt HW.out.crs).mono ?_; rintro e2 w2 ⟨rfl, hc2, hj2⟩; have HW2 : Hid _ := HW.out.next (k + 1) hlt hc2 hj2)
          go_step3
          exact ⟨JH_mk rfl HW2.out HFS'.out HF'.out, mu_next HW.out.crs HW2.out.crs hlt⟩
    · refine ⟨_, rfl, ?_⟩
      have HSt : Hid (X0.feed (t.data.toList.take k) = ⟨true, false, false, []⟩) := HST.out
      have HWc : Hid _ := HW.out.clear
      clear HST
      go_wp2
      go_step3
      have hk1 := HWc.out.le
      by_cases hend1 : k = t.size
      · have HWe : Hid (WH t w L t.size v (.slice none 0 0) ss [] w') := show WH _ _ _ _ _ _ _ _ _ by rw [← hend1]; exact HWc.out
        have HSe : Hid (ss = (X0.feeds (t.data.toList.take t.size)).map bytesOf) := show _ = _ by rw [← hend1]; exact HSS.out
        have HFe : Hid (X0.feed (t.data.toList.take t.size) = ⟨true, false, false, []⟩) := show _ = _ by rw [← hend1]; exact HSt.out
        clear hend1
        go_wp2_with (go_at_call 97; refine (next_end L t _ ht HWe.out.crs).mono ?_; rintro e5 w5 ⟨rfl, hc5, hj5⟩; have HW5 : Hid _ := HWe.out.next t.size (Nat.le_refl _) hc5 hj5; have hcv := OwnM.conv (P := Try.prog) 22 9 Try.underlying22 Try.underlying5 Try.underlying9 HW5.out.ownM; obtain ⟨r0, r1, r2, r3, rf⟩ := HW5.out.cells)
        rw [jumps_ret]
        exact bodyPost_ret (v := .tuple #[.agg #[.bool true, .bool false, .bool false, .string (bytesOf [])], v]) (by simp [results, Try.results66, go_sem, r0, r1, r2, r3]; rfl) rfl (PH_end HW5.out HSe.out (HFe.out.trans (by rw [bytesOf_list])))
      · have hlt1 : k < t.size := by omega
        have HF : Hid _ := feed_at X0 t (k) hlt1 HSt.out
        have HFS : Hid _ := feeds_at X0 t (k) hlt1 HSt.out HSS.out
        have hsl : Hid (ss.length ≤ 10000) := show _ ≤ _ by have := ss_len HSS.out (by omega); omega
        have e126 := is126 t[k]
        have e125 := is125 t[k]
        by_cases h6 : t[k] = 126
        · simp only [h6, decide_true] at e126
          have HFS' : Hid (ss ++ heardS [] = (X0.feeds (t.data.toList.take (k + 1))).map bytesOf) := show _ = _ by rw [← HFS.out, h6, hears_heardS]
          have HF' : Hid (X0.feed (t.data.toList.take (k + 1)) = ⟨true, false, false, []⟩) := show _ = _ by rw [HF.out, h6]; rfl
          rw [← h6] at e126
          clear HF HFS h6 e125
          go_wp2_with (first | (go_at_call 97; refine (next_more L t (k) _ ht hlt1 HWc.out.crs).mono ?_; rintro e5 w5 ⟨rfl, hc5, hj5⟩; have HW5 : Hid _ := HWc.out.next (k + 1) hlt1 hc5 hj5) | (go_at_call 98; refine (addHeard_any (L + 1) _ v _ ss [] _ (by simp) hsl.out HW5.out.size HW5.out.own HW5.out.ownM).mono ?_; rintro e3 w3 ⟨v3, rfl, ho3, hg3⟩; have HW3 : Hid _ := HW5.out.hear ho3 hg3))
          go_step3
          exact ⟨JH_mk rfl HW3.out HFS'.out HF'.out, mu_far HW.out.crs HW3.out.crs (by omega) hlt1⟩
        · simp only [h6, decide_false] at e126
          have HFS' : Hid (ss = (X0.feeds (t.data.toList.take (k + 1))).map bytesOf) := show _ = _ by rw [← HFS.out, hears_not h6, List.append_nil]
          by_cases h5 : t[k] = 125
          · simp only [h5, decide_true] at e125
            have HF' : Hid (X0.feed (t.data.toList.take (k + 1)) = ⟨true, true, false, []⟩) := show _ = _ by rw [HF.out, h5]; rfl
            rw [← h5] at e125
            clear HF HFS h6 h5
            go_wp2_with (go_at_call 97; refine (next_more L t (k) _ ht hlt1 HWc.out.crs).mono ?_; rintro e5 w5 ⟨rfl, hc5, hj5⟩; have HW5 : Hid _ := HWc.out.next (k + 1) hlt1 hc5 hj5)
            go_step3
            exact ⟨JH_mk rfl HW5.out HFS'.out ⟨HF'.out, rfl⟩, mu_far HW.out.crs HW5.out.crs (by omega) hlt1⟩
          · simp only [h5, decide_false] at e125
            have HF' : Hid (X0.feed (t.data.toList.take (k + 1)) = ⟨true, false, false, [] ++ [t[k]]⟩) := show _ = _ by
              rw [HF.out]
              unfold Wr.next
              rw [if_neg h6, if_neg (by simp), if_neg (fun q => h5 q.1), if_neg (by simp)]
              rfl
            clear HF HFS h6 h5
            obtain ⟨i5, hi5, hz50, hz51, hz52⟩ := info_parts info5h
            go_wp2_with (go_at_call 97; refine (next_more L t (k) _ ht hlt1 HWc.out.crs).mono ?_; rintro e5 w5 ⟨rfl, hc5, hj5⟩; have HW5 : Hid _ := HWc.out.next (k + 1) hlt1 hc5 hj5)
            go_step3
            go_wp2_with (at_builtin; refine wpList_append_M rfl (.tmp 63) (.tmp 65) 22 rfl (w.heap.size + 2) 5 i5 (.int .u8 0) Try.underlying22 hi5 hz50 hz51 hz52 rfl _ [] rfl (HW5.out.ownM.alloc _) ⟨w5.heap.size, 0, none⟩ 1 t[k] rfl (cells_new w5 [_] _ 0 _ rfl) (by simp) (by have := HW5.out.lt; have := HW5.out.size; simp; omega) ?_; intro v4 w4 ho4 hg4 _; have HW4 : Hid _ := HW5.out.put ho4 hg4)
            go_step3
            exact ⟨JH_mk rfl HW4.out HFS'.out ⟨HF'.out, rfl⟩, mu_far HW.out.crs HW4.out.crs (by omega) hlt1⟩
    · refine ⟨_, rfl, ?_⟩
      obtain ⟨c, rfl, rfl, hl62, hst⟩ : ∃ c : UInt8, x7 = .int .u8 c.toNat ∧ bo = false ∧ buf.length ≤ 62 ∧ X0.feed (t.data.toList.take k) = if buf.length = 62 then ⟨true, false, true, []⟩ else ⟨true, false, false, buf ++ [c]⟩ := HST.out
      have hlen : Hid (buf.length ≤ 62) := hl62
      have HSt : Hid _ := hst
      clear hst HST hl62
      obtain ⟨pb, cb, rfl⟩ := HW.out.ownM.shape
      obtain ⟨i5, hi5, hz50, hz51, hz52⟩ := info_parts info5h
      by_cases q : buf.length = 62
      · have q1 : ((buf.length : Int) == 62) = true := by simp; omega
        rw [if_pos q] at HSt
        clear q
        go_wp2
        go_step3
        exact ⟨JH_mk rfl HW.out HSS.out HSt.out, mu_put HW.out.crs HW.out.crs rfl⟩
      · have q1 : ((buf.length : Int) == 62) = false := by simp; omega
        rw [if_neg q] at HSt
        clear q
        go_wp2_with (at_builtin; refine wpList_append_M rfl (.tmp 63) (.tmp 65) 22 rfl (w.heap.size + 2) 5 i5 (.int .u8 0) Try.underlying22 hi5 hz50 hz51 hz52 rfl _ buf rfl (HW.out.ownM.alloc _) ⟨w'.heap.size, 0, none⟩ 1 c rfl (cells_new w' [_] _ 0 _ rfl) (by have := hlen.out; omega) (by have := HW.out.lt; have := HW.out.size; simp; omega) ?_; intro v4 w4 ho4 hg4 _; have HW4 : Hid _ := HW.out.put ho4 hg4)
        go_step3
        exact ⟨JH_mk rfl HW4.out HSS.out ⟨HSt.out, rfl⟩, mu_put HW.out.crs HW4.out.crs rfl⟩
end Go.Proofs.Ytiaphaghjklhaaa
