/- WORDS OF BYTES: the program's wordsOf and the model's l04Word; and the program's small readers. -/
import Derived.Test.YtfpibedloodjlaaAsk
import Derived.Test.YtfpibedloodjlaaBitsR
import Derived.BigQuiet
import Derived.Deep.QuietTactic
namespace Go.Proofs.Ytfpibedloodjlaa
open Go.RowKit
set_option linter.unusedVariables false
set_option linter.unusedSimpArgs false

theorem index_at (s : ByteArray) (i : Nat) (h : i < s.size) (x : Int) (hx : x = (i : Int)) (w : World) : (Instr.index 9 (.string s) (.int .i64 x)).run Try.prog w = .ok (.int .u8 (s[i].toNat : Int)) w := by
  subst hx
  rw [run_index_string w 9 s .i64 _ Try.underlying9, dif_pos (by omega)]
  simp
theorem wrap64_small (n : Nat) (h : n < 9223372036854775808) : IntKind.i64.wrap (n : Int) = (n : Int) := by
  have e : (n : Int) % 2 ^ 64 = n := Int.emod_eq_of_lt (by omega) (by omega)
  simp only [IntKind.wrap, IntKind.bits, IntKind.signed, e]
  rw [if_neg]
  simp
  omega
theorem word_or (x y : Nat) (hx : x < 256) (hy : y < 256) : bits BinOp.or IntKind.i64 ((x : Int) * 256) (y : Int) = ((256 * x + y : Nat) : Int) := by
  rw [show (x : Int) * 256 = ((x * 256 : Nat) : Int) by omega]
  show IntKind.i64.wrap ((BitVec.ofInt 64 ((x * 256 : Nat) : Int) ||| BitVec.ofInt 64 (y : Int)).toNat : Int) = _
  rw [BitVec.toNat_or, ofInt_u64 _ (by omega), ofInt_u64 y (by omega), nat_join8 (x * 256) y (by omega) hy, wrap64_small _ (by omega)]
  omega
def wdAt (s : ByteArray) (m k : Nat) : List Int := (wordsAt s 0 m).take k ++ List.replicate (m - k) 0
theorem wordsAt_get (s : ByteArray) (i n k : Nat) (h : k < (wordsAt s i n).length) : (wordsAt s i n)[k] = wordAt s (i + 2 * k) := by simp [wordsAt]
theorem wdAt_length (s : ByteArray) (m k : Nat) (h : k ≤ m) : (wdAt s m k).length = m := by unfold wdAt; rw [List.length_append, List.length_take, wordsAt_length, List.length_replicate]; omega
theorem wdAt_step (s : ByteArray) (m k : Nat) (h : k < m) (x : Int) (hx : x = wordAt s (2 * k)) : (wdAt s m k).set k x = wdAt s m (k + 1) := by
  have hl : k < (wordsAt s 0 m).length := by rw [wordsAt_length]; exact h
  unfold wdAt
  have := set_midI (l := (wordsAt s 0 m).take k) (m := List.replicate (m - k) (0 : Int)) (c := x) (by intro e; have := congrArg List.length e; simp at this; omega)
  rw [List.length_take, Nat.min_eq_left (by omega)] at this
  rw [this, List.take_succ_eq_append_getElem hl, wordsAt_get, hx, List.drop_replicate, Nat.sub_sub, Nat.zero_add]
set_option maxRecDepth 100000 in
set_option maxHeartbeats 800000 in
theorem wordsOf_any (s : ByteArray) (w : World) (hs : s.size ≤ 8000) :
    Calls Try.prog 63 #[.string s] w fun e w' => ∃ v, e = .returned v ∧ OwnI w' w.heap.size v (wordsAt s 0 (s.size / 2)) ∧ Below w.heap.size w w' := by
  obtain ⟨i0, hi, hz0, hz1, hz2⟩ := info_parts info64
  obtain ⟨m, hm⟩ : ∃ m, Hid (m = s.size / 2) := ⟨_, show _ = _ from rfl⟩
  have hdv : (s.size : Int).tdiv 2 = (m : Int) := by rw [Int.tdiv_eq_ediv_of_nonneg (by omega)]; have := hm.out; omega
  have hm2 : 2 * m ≤ s.size := by have := hm.out; omega
  rw [← hm.out]
  go_enter Try.func63, Try.ntmps63
  go_wp2_with (at_make; refine wpList_make_full _ rfl (.tmp 7) (.tmp 7) 23 rfl w.heap.size 2 i0 (.int .i64 0) 1 Try.underlying23 hi hz0 hz1 .i64 .i64 _ _ m rfl rfl (by omega) (by omega) (by rw [hz2]; omega) (by unfold maxLen; omega) (Nat.le_refl _) ?_; intro w1 hown1 hgrow1; have hB1 := (Below.refl w.heap.size w).grown hgrow1 (Nat.le_refl _) (fun k e => by cases e); rw [zeros_list] at hown1)
  have HO1 : Hid (OwnI w1 w.heap.size (.slice (some ⟨w.heap.size, 0, none⟩) m m) (wdAt s m 0)) := by
    show OwnI _ _ _ _
    unfold wdAt
    rw [List.take_zero, List.nil_append, Nat.sub_zero]
    unfold OwnI
    rw [List.length_replicate]
    exact hown1
  clear hown1 hgrow1
  go_loopw [11] (fun i wr => ∃ k : Nat, k ≤ m ∧ i = .int .i64 k ∧ Hid (OwnI wr w.heap.size (.slice (some ⟨w.heap.size, 0, none⟩) m m) (wdAt s m k)) ∧ Below w.heap.size w wr) (fun i _ => m - (intOf i).toNat)
  case atStart => exact ⟨0, Nat.zero_le _, rfl, HO1.out, hB1⟩
  case round =>
    obtain ⟨k, hk, rfl, HW, hbel⟩ := hrel
    have hlen : (wdAt s m k).length = m := wdAt_length s m k hk
    by_cases hlt : k < m
    · have hk8 : k < (wdAt s m k).length := by rw [hlen]; exact hlt
      obtain ⟨g, hpg, _, hgl, hq, hf⟩ := HW.out.cell k hk8
      cases hpg
      have hk0 : 2 * k < s.size := by omega
      have hk1 : 2 * k + 1 < s.size := by omega
      have HST : Hid _ := wdAt_step s m k hlt
      have HBA : Hid _ := byteAt_eq s (2 * k) hk0
      have HBB : Hid _ := byteAt_eq s (2 * k + 1) hk1
      have hb := u8_lt s[2 * k]
      have hb2 := u8_lt s[2 * k + 1]
      have h1 := fun x => HW.out.set k hk8 x
      generalize (wdAt s m k)[k] = old at hq
      have hj0 : (2 : Int) * (k : Int) < (s.size : Int) := by omega
      have hj1 : (2 : Int) * (k : Int) + 1 < (s.size : Int) := by omega
      have ix0 := index_at s (2 * k) hk0 (2 * (k : Int)) (by omega)
      have ix1 := index_at s (2 * k + 1) hk1 (2 * (k : Int) + 1) (by omega)
      go_wp2
      go_region
      go_wp2
      go_roundw
      case rel => exact ⟨k + 1, by omega, by go_num, (show OwnI _ _ _ _ by have e : bits BinOp.or IntKind.i64 ((s[2 * k].toNat : Int) * 256) (s[2 * k + 1].toNat : Int) = wordAt s (2 * k) := by { rw [word_or _ _ hb hb2]; unfold wordAt; rw [HBA.out, HBB.out] }
                                                                           rw [← HST.out _ e]; exact h1 _), (hbel.setCell (Nat.le_refl _) _).drew⟩
      case measure => simp [intOf]; omega
    · obtain rfl : k = m := by omega
      go_wp2
      go_ret
      refine ⟨_, rfl, ?_, hbel⟩
      have := HW.out
      unfold wdAt at this
      rwa [Nat.sub_self, List.replicate_zero, List.append_nil, List.take_of_length_le (by rw [wordsAt_length]; exact Nat.le_refl _)] at this
set_option maxRecDepth 100000 in
set_option maxHeartbeats 800000 in
theorem l04Word_any (s : ByteArray) (i : Nat) (w : World) (hs : s.size ≤ 8000) (hi : i + 1 < s.size) :
    Calls Try.prog 66 #[.string s, .int .i64 i] w fun e w' => e = .returned (.int .i64 (wordAt s i)) ∧ Below w.heap.size w w' := by
  have HBA : Hid _ := byteAt_eq s i (by omega)
  have HBB : Hid _ := byteAt_eq s (i + 1) hi
  have hi0 : i < s.size := by omega
  have hb := u8_lt s[i]
  have hb2 := u8_lt s[i + 1]
  go_enter Try.func66, Try.ntmps66
  have hj1 : (i : Int) + 1 < (s.size : Int) := by omega
  have ix0 := index_at s i hi0 (i : Int) rfl
  have ix1 := index_at s (i + 1) hi ((i : Int) + 1) (by omega)
  go_wp2
  go_region
  go_wp2
  go_ret
  exact ⟨ret_int (by unfold wordAt; rw [HBA.out, HBB.out]; omega), ⟨rfl, rfl, rfl, Nat.le_refl _, fun _ _ => rfl⟩⟩
theorem oneValue_any (k m : Int) (w : World) (h0 : 0 ≤ m) (h1 : m ≤ 65535) :
    Calls Try.prog 64 #[.int .i64 k, .int .i64 m] w fun e w' => e = .returned (.int .i64 (if coilB k then m / 65280 else m)) ∧ w = w' := by
  have HC : Hid (Calls Try.prog 61 #[.int .i64 k] w fun e w' => e = .returned (.bool (coilB k)) ∧ w = w') := asksCoils_any k w
  have e0 : m.tdiv 65280 = m / 65280 := Int.tdiv_eq_ediv_of_nonneg h0
  cases hk : coilB k with
  | true =>
    rw [hk] at HC
    rw [if_pos rfl]
    go_enter Try.func64, Try.ntmps64
    go_wp2_with (go_at_call 61; refine HC.out.mono ?_; rintro e w1 ⟨rfl, rfl⟩)
    go_ret
    exact ⟨ret_int (by first | rfl | exact e0 | (unfold wrap64; omega)), rfl⟩
  | false =>
    rw [hk] at HC
    rw [if_neg (by decide)]
    go_enter Try.func64, Try.ntmps64
    go_wp2_with (go_at_call 61; refine HC.out.mono ?_; rintro e w1 ⟨rfl, rfl⟩)
    go_ret
    exact ⟨rfl, rfl⟩
theorem OwnI.lowQ {w : World} {base B : Nat} {v : Value} {zs : List Int} (h : OwnI w base v zs) (hB : B ≤ base) : OwnI w B v zs := by
  refine ⟨h.1, h.2.imp id ?_⟩
  rintro ⟨g, cap, cur, e1, e2, e3⟩
  exact ⟨g, cap, cur, e1, Nat.le_trans hB e2, e3⟩
def valsR (k m : Int) (d : ByteArray) : List Int := if coilB k then bitsR d m else wordsAt d 0 (d.size / 2)
set_option maxRecDepth 100000 in
set_option maxHeartbeats 800000 in
theorem readValues_any (k a m : Int) (v : Value) (hv : ∃ p n c, v = .slice p n c) (d : ByteArray) (w : World) (hd : d.size ≤ 8000) (hw : (Lit.int .i64 m).wf = true) :
    Calls Try.prog 65 #[.agg #[.int .i64 k, .int .i64 a, .int .i64 m, v], .string d] w fun e w' => ∃ v', e = .returned v' ∧ OwnI w' w.heap.size v' (valsR k m d) ∧ Below w.heap.size w w' := by
  obtain ⟨p, n, c, rfl⟩ := hv
  have HC : Hid (∀ W, Calls Try.prog 61 #[.int .i64 k] W fun e w' => e = .returned (.bool (coilB k)) ∧ W = w') := fun W => asksCoils_any k W
  have HB : Hid (∀ W, Calls Try.prog 22 #[.string d, .int .i64 m] W fun e w' => ∃ v, e = .returned v ∧ OwnI w' W.heap.size v (bitsR d m) ∧ Below W.heap.size W w') := fun W => bitsRead_any d m W (by omega) hw
  have HW : Hid (∀ W, Calls Try.prog 63 #[.string d] W fun e w' => ∃ v, e = .returned v ∧ OwnI w' W.heap.size v (wordsAt d 0 (d.size / 2)) ∧ Below W.heap.size W w') := fun W => wordsOf_any d W hd
  have hle : w.heap.size ≤ (w.alloc (.cells #[.int .i64 k, .int .i64 a, .int .i64 m, .slice p n c] 25)).heap.size := by simp
  unfold valsR
  cases hk : coilB k with
  | true =>
    rw [hk] at HC
    rw [if_pos rfl]
    go_enter Try.func65, Try.ntmps65
    go_wp2_with (first
      | (go_at_call 61; refine (HC.out _).mono ?_; rintro e w1 ⟨rfl, rfl⟩)
      | (go_at_call 22; refine (HB.out _).mono ?_; rintro e w1 ⟨v1, rfl, hown, hb1⟩))
    go_ret
    exact ⟨_, rfl, OwnI.lowQ hown hle, keepB (all_alloc _ _) (Nat.le_refl _) hb1⟩
  | false =>
    rw [hk] at HC
    rw [if_neg (by decide)]
    go_enter Try.func65, Try.ntmps65
    go_wp2_with (first
      | (go_at_call 61; refine (HC.out _).mono ?_; rintro e w1 ⟨rfl, rfl⟩)
      | (go_at_call 63; refine (HW.out _).mono ?_; rintro e w1 ⟨v1, rfl, hown, hb1⟩))
    go_ret
    exact ⟨_, rfl, OwnI.lowQ hown hle, keepB (all_alloc _ _) (Nat.le_refl _) hb1⟩
end Go.Proofs.Ytfpibedloodjlaa
